/- joined: Zu Zv X Zw Nbp Nb Sa Nc Mps Ra -/
import Derived.Test.YtjkfdcjfoliboaaZAroundOf3
import Derived.StillTailTactics
import Derived.WideShapes
import Derived.Laws.OwnMore
import Derived.BigRegion
/- plain: the points of whole numbers on the lines of a polygon, in its order -/
namespace Go.Proofs.Ytjkfdcjfoliboaa
open Go.ChangeShapes Go.WideShapes Go.ChangeAt Go.RowKit Go.Joins
set_option linter.unusedVariables false
set_option linter.unusedSimpArgs false
set_option maxRecDepth 4000
/-- how far it is from point to point of a line -/
def dvP (a b : Int × Int) : Int × Int := ((b.1 - a.1).tdiv (MJ.St a b), (b.2 - a.2).tdiv (MJ.St a b))
/-- point k of a line -/
def lnP (a b : Int × Int) (k : Nat) : Int × Int := (a.1 + (dvP a b).1 * k, a.2 + (dvP a b).2 * k)
theorem dv_mul (a b : Int × Int) (h : a ≠ b) : b.1 - a.1 = (dvP a b).1 * (MJ.St a b : Int) ∧ b.2 - a.2 = (dvP a b).2 * (MJ.St a b : Int) :=
  ⟨(Int.tdiv_mul_cancel (Int.gcd_dvd_left (b.1 - a.1) (b.2 - a.2))).symm, (Int.tdiv_mul_cancel (Int.gcd_dvd_right (b.1 - a.1) (b.2 - a.2))).symm⟩
theorem ln_end {a b : Int × Int} (h : a ≠ b) : lnP a b (MJ.St a b) = b := by
  have := dv_mul a b h
  unfold lnP
  exact Prod.ext (by simp only []; omega) (by simp only []; omega)
theorem ln_zero (a b : Int × Int) : lnP a b 0 = a := by
  unfold lnP
  exact Prod.ext (by simp) (by simp)
theorem ln_succ (a b : Int × Int) (k : Nat) : lnP a b (k + 1) = ((lnP a b k).1 + (dvP a b).1, (lnP a b k).2 + (dvP a b).2) := by
  unfold lnP
  push_cast
  exact Prod.ext (by simp only [Int.mul_add, Int.mul_one]; omega) (by simp only [Int.mul_add, Int.mul_one]; omega)
theorem ln_ne {a b : Int × Int} (h : a ≠ b) {k : Nat} (hk : k < MJ.St a b) : lnP a b k ≠ b := by
  intro e
  have d := dv_mul a b h
  have e1 : a.1 + (dvP a b).1 * k = b.1 := congrArg Prod.fst e
  have e2 : a.2 + (dvP a b).2 * k = b.2 := congrArg Prod.snd e
  have z1 : (dvP a b).1 * ((MJ.St a b : Int) - k) = 0 := by rw [Int.mul_sub]; omega
  have z2 : (dvP a b).2 * ((MJ.St a b : Int) - k) = 0 := by rw [Int.mul_sub]; omega
  have y1 : (dvP a b).1 = 0 := by rcases Int.mul_eq_zero.1 z1 with h | h <;> omega
  have y2 : (dvP a b).2 = 0 := by rcases Int.mul_eq_zero.1 z2 with h | h <;> omega
  rw [y1, y2] at d
  exact h (Prod.ext (by omega) (by omega))
theorem seg_bd {a b s n k : Int} (h : b - a = s * n) (h0 : 0 ≤ k) (h1 : k ≤ n) (ha : -40 ≤ a ∧ a ≤ 40) (hb : -40 ≤ b ∧ b ≤ 40) : -40 ≤ a + s * k ∧ a + s * k ≤ 40 := by
  by_cases hs : 0 ≤ s
  · have m1 := Int.mul_nonneg hs h0
    have m2 := Int.mul_nonneg hs (show 0 ≤ n - k by omega)
    rw [Int.mul_sub] at m2
    omega
  · have m1 := Int.mul_nonneg (show 0 ≤ -s by omega) h0
    have m2 := Int.mul_nonneg (show 0 ≤ -s by omega) (show 0 ≤ n - k by omega)
    rw [Int.neg_mul] at m1 m2
    rw [Int.mul_sub] at m2
    omega
theorem peg_40 {p : Int × Int} (h : isPg p = true) : (-40 ≤ p.1 ∧ p.1 ≤ 40) ∧ (-40 ≤ p.2 ∧ p.2 ≤ 40) := by
  unfold isPg isPegB at h
  simp only [Bool.and_eq_true, decide_eq_true_eq] at h
  exact ⟨h.1, h.2⟩
theorem ln_bd {a b : Int × Int} (h : a ≠ b) (ha : isPg a = true) (hb : isPg b = true) {k : Nat} (hk : k ≤ MJ.St a b) : (-40 ≤ (lnP a b k).1 ∧ (lnP a b k).1 ≤ 40) ∧ (-40 ≤ (lnP a b k).2 ∧ (lnP a b k).2 ≤ 40) := by
  have d := dv_mul a b h
  have pa := peg_40 ha
  have pb := peg_40 hb
  exact ⟨seg_bd d.1 (by omega) (by omega) pa.1 pb.1, seg_bd d.2 (by omega) (by omega) pa.2 pb.2⟩
theorem st_bd {a b : Int × Int} (h : a ≠ b) (ha : isPg a = true) (hb : isPg b = true) : 1 ≤ MJ.St a b ∧ MJ.St a b ≤ 160 := by
  have := MJ.St_pos h
  have := stepN_bd (a1 := a.1) (a2 := a.2) (b1 := b.1) (b2 := b.2) ha hb
  rw [← st_is] at this
  omega
theorem dv_bd {a b : Int × Int} (h : a ≠ b) (ha : isPg a = true) (hb : isPg b = true) : (-80 ≤ (dvP a b).1 ∧ (dvP a b).1 ≤ 80) ∧ (-80 ≤ (dvP a b).2 ∧ (dvP a b).2 ≤ 80) := by
  have hs := st_bd h ha hb
  have l1 := ln_bd h ha hb (k := 1) hs.1
  have pa := peg_40 ha
  unfold lnP at l1
  simp only [Int.natCast_one, Int.mul_one] at l1
  omega
/-- a list of different neighbours -/
structure Rng (t : List (Int × Int)) : Prop where
  few : 1 ≤ t.length ∧ t.length ≤ 10
  pegs : ∀ i, i < t.length → isPg (vx t i) = true
  diff : ∀ i, i < t.length → vx t i ≠ vx t (i + 1)
theorem rng_peg {t : List (Int × Int)} (h : Rng t) (i : Nat) : isPg (vx t i) = true := vx_pg h.pegs (by have := h.few; omega) i
/-- the points on the first i lines -/
def arR (t : List (Int × Int)) : Nat → List (Int × Int)
  | 0 => []
  | i + 1 => arR t i ++ firsts (lnP (vx t i) (vx t (i + 1))) (MJ.St (vx t i) (vx t (i + 1)))
def arL (t : List (Int × Int)) : List (Int × Int) := arR t t.length
theorem ar_len {t : List (Int × Int)} (h : Rng t) : ∀ i, i ≤ t.length → (arR t i).length ≤ 160 * i
  | 0, _ => by simp [arR]
  | i + 1, hi => by
    have ih := ar_len h i (by omega)
    have s := st_bd (h.diff i (by omega)) (rng_peg h i) (rng_peg h (i + 1))
    show (arR t i ++ _).length ≤ _
    rw [List.length_append, firsts_len]
    omega
theorem arL_len {t : List (Int × Int)} (h : Rng t) : (arL t).length ≤ 1600 := by
  have := ar_len h t.length (Nat.le_refl _)
  have := h.few
  unfold arL
  omega
/-- the told polygon -/
def tl (l : List (Int × Int)) : List (Int × Int) := firsts (tellF l) l.length
theorem tl_len (l : List (Int × Int)) : (tl l).length = l.length := firsts_len _ _
theorem vx_firsts' (f : Nat → Int × Int) (n i : Nat) (h : i < n) : vx (firsts f n) i = f i := by
  have e := vx_get (l := firsts f n) (i := i) (by rw [firsts_len]; exact h)
  rw [firsts_get f n i h] at e
  injection e with e
  exact e.symm
theorem tl_vx (l : List (Int × Int)) (i : Nat) (h : i < l.length) : vx (tl l) i = tellF l i := vx_firsts' _ _ _ h
theorem tl_rng {l : List (Int × Int)} (hg : Good l) : Rng (tl l) := by
  have h3 := hg.few
  have hn : 0 < l.length := by omega
  have pg : ∀ i, isPg (vx l i) = true := fun i => vx_pg hg.pegs hn i
  refine ⟨by rw [tl_len]; omega, fun i hi => ?_, fun i hi => ?_⟩
  · rw [tl_len] at hi
    rw [tl_vx l i hi]
    unfold tellF
    split <;> exact pg _
  · rw [tl_len] at hi
    have e : vx (tl l) (i + 1) = tellF l ((i + 1) % l.length) := by
      rw [← vx_per, tl_len, tl_vx l _ (Nat.mod_lt _ hn)]
    rw [tl_vx l i hi, e]
    generalize minI (vx l) l.length = m
    unfold tellF
    by_cases ha : areaN l < 0
    · rw [if_pos ha, if_pos ha]
      generalize minI (vx l) l.length = m
      rw [vx_per, vx_per]
      by_cases hc : i + 1 < l.length
      · rw [Nat.mod_eq_of_lt hc]
        have := good_ne hg (m + l.length - (i + 1))
        rw [show m + l.length - (i + 1) + 1 = m + l.length - i by omega] at this
        exact this.symm
      · rw [show i + 1 = l.length by omega, Nat.mod_self, Nat.sub_zero, vx_addN, show m + l.length - i = m + 1 by omega]
        exact (good_ne hg m).symm
    · rw [if_neg ha, if_neg ha]
      generalize minI (vx l) l.length = m
      rw [vx_per, vx_per, vx_addN, vx_addN]
      by_cases hc : i + 1 < l.length
      · rw [Nat.mod_eq_of_lt hc, ← Nat.add_assoc]
        exact good_ne hg _
      · rw [show (i + 1) % l.length = 0 by rw [show i + 1 = l.length by omega, Nat.mod_self], Nat.add_zero]
        have := good_ne hg (m + i)
        rw [show m + i + 1 = m + l.length by omega, vx_addN] at this
        exact this
end Go.Proofs.Ytjkfdcjfoliboaa
/- contract: the way to the next point on a corner's line -/
namespace Go.Proofs.Ytjkfdcjfoliboaa
open Go.ChangeShapes Go.WideShapes Go.ChangeAt Go.RowKit Go.Joins
set_option linter.unusedVariables false
set_option linter.unusedSimpArgs false
set_option maxRecDepth 4000
/-- a box of a point of the call's own -/
structure Bo2 (w : World) (g : Nat) (a b : Int) : Prop where
  z : g < w.heap.size
  c0 : w.cell? ⟨g, 0, none⟩ = some (.int .i64 a)
  c1 : w.cell? ⟨g, 1, none⟩ = some (.int .i64 b)
  f : ∀ o, w.frozen? ⟨g, o, none⟩ = false
theorem bo2_below {w w' : World} {g : Nat} {a b : Int} (h : Bo2 w g a b) (hb : Below w.heap.size w w') : Bo2 w' g a b := by
  have hc := (bcell hb).1
  have hf := (bcell hb).2
  have hz := hb.size
  exact ⟨by have := h.z; omega, (hc _ _ h.z).trans h.c0, (hc _ _ h.z).trans h.c1, fun o => (hf _ _ h.z).trans (h.f o)⟩
theorem bo2_new (w : World) (t : TypeId) : Bo2 (w.alloc (.cells #[.int .i64 0, .int .i64 0] t)) w.heap.size 0 0 :=
  ⟨by simp, by go_simp, by go_simp, fun o => by rw [frozen?_alloc_cells]; simp [World.frozen?]⟩
theorem bo2_set {w : World} {g : Nat} {a b : Int} (h : Bo2 w g a b) (x y : Int) : Bo2 ((w.setCell ⟨g, 0, none⟩ (.int .i64 x)).setCell ⟨g, 1, none⟩ (.int .i64 y)) g x y := by
  refine ⟨by simpa [World.setCell] using h.z, ?_, ?_, fun o => by rw [World.frozen?_setCell, World.frozen?_setCell]; exact h.f o⟩
  · rw [World.cell?_setCell_other _ _ _ _ (fun e => by injection e with e1 e2; cases e2)]
    exact World.cell?_setCell_same _ _ _ h.c0
  · refine World.cell?_setCell_same _ _ _ (u := .int .i64 b) ?_
    rw [World.cell?_setCell_other _ _ _ _ (fun e => by injection e with e1 e2; cases e2)]
    exact h.c1
theorem bo2_al {W0 W1 W : World} {t : TypeId} (k1 : Below W0.heap.size W0 W1) (k2 : Below (W1.alloc (.cells #[.int .i64 0, .int .i64 0] t)).heap.size (W1.alloc (.cells #[.int .i64 0, .int .i64 0] t)) W) (x y : Int) :
    Bo2 ((W.setCell ⟨W1.heap.size, 0, none⟩ (.int .i64 x)).setCell ⟨W1.heap.size, 1, none⟩ (.int .i64 y)) W1.heap.size x y ∧ Below W0.heap.size W0 ((W.setCell ⟨W1.heap.size, 0, none⟩ (.int .i64 x)).setCell ⟨W1.heap.size, 1, none⟩ (.int .i64 y)) := by
  have h1 := k1.size
  have hA := Below.alloc k1 h1 (.cells #[.int .i64 0, .int .i64 0] t)
  have hB := hA.trans (k2.mono hA.size)
  exact ⟨bo2_set (bo2_below (bo2_new W1 t) k2) x y, (hB.setCell (p := ⟨W1.heap.size, 0, none⟩) h1 _).setCell (p := ⟨W1.heap.size, 1, none⟩) h1 _⟩
theorem mid_peg {p : Int × Int} (h : isPg p = true) : Mid p.1 ∧ Mid p.2 := by
  have := peg_40 h
  unfold Mid
  omega
set_option maxHeartbeats 2000000 in
theorem cornerStep_any (p q : Int × Int) (b1 b2 : Int) (w : World) (hp : isPg p = true) (hq : isPg q = true) (hne : p ≠ q) :
    Calls Try.prog 79 #[.agg #[.int .i64 p.1, .int .i64 p.2, .int .i64 b1, .int .i64 b2, .int .i64 q.1, .int .i64 q.2]] w fun e w' => e = .returned (.agg #[.int .i64 (dvP p q).1, .int .i64 (dvP p q).2]) ∧ Below w.heap.size w w' := by
  have mp := mid_peg hp
  have mq := mid_peg hq
  have hs := st_bd hne hp hq
  have pp := peg_40 hp
  have pq := peg_40 hq
  have KM := Lib.hid (fun W => minus_any q.1 q.2 p.1 p.2 W mq.1 mq.2 mp.1 mp.2)
  have KS := Lib.hid (fun W => steps_any p q b1 b2 W hp hq)
  have KD := Lib.hid (fun W => dividedByN_any (q.1 - p.1) (q.2 - p.2) (MJ.St p q : Int) W (by unfold Mid; omega) (by unfold Mid; omega) (by omega))
  rw [← st_is] at KS
  have e1 : (dvP p q).1 = (q.1 - p.1).tdiv (MJ.St p q : Int) := rfl
  have e2 : (dvP p q).2 = (q.2 - p.2).tdiv (MJ.St p q : Int) := rfl
  rw [e1, e2]
  clear e1 e2 mp mq hs pp pq hp hq hne
  generalize (q.1 - p.1).tdiv (MJ.St p q : Int) = d1 at *
  generalize (q.2 - p.2).tdiv (MJ.St p q : Int) = d2 at *
  generalize (decide ((q.1 - p.1).tmod (MJ.St p q : Int) = 0) && decide ((q.2 - p.2).tmod (MJ.St p q : Int) = 0)) = db at *
  generalize (MJ.St p q : Int) = st at *
  generalize q.1 - p.1 = m1 at *
  generalize q.2 - p.2 = m2 at *
  obtain ⟨p1, p2⟩ := p
  obtain ⟨q1, q2⟩ := q
  simp only [] at KM KS
  go_enter Try.func79, Try.ntmps79
  go_wp2_with fail
  obtain ⟨W0, hW0⟩ : ∃ W0, W0 = ((w.alloc (.cells #[.int .i64 p1, .int .i64 p2, .int .i64 b1, .int .i64 b2, .int .i64 q1, .int .i64 q2] 49)).alloc (.cells #[.int .i64 0, .int .i64 0] 34)) := ⟨_, rfl⟩
  rw [← hW0]
  have yW00_0 : W0.cell? ⟨w.heap.size, 0, none⟩ = some (.int .i64 p1) := by rw [hW0]; go_simp
  have yW00_1 : W0.cell? ⟨w.heap.size, 1, none⟩ = some (.int .i64 p2) := by rw [hW0]; go_simp
  have yW00_2 : W0.cell? ⟨w.heap.size, 2, none⟩ = some (.int .i64 b1) := by rw [hW0]; go_simp
  have yW00_3 : W0.cell? ⟨w.heap.size, 3, none⟩ = some (.int .i64 b2) := by rw [hW0]; go_simp
  have yW00_4 : W0.cell? ⟨w.heap.size, 4, none⟩ = some (.int .i64 q1) := by rw [hW0]; go_simp
  have yW00_5 : W0.cell? ⟨w.heap.size, 5, none⟩ = some (.int .i64 q2) := by rw [hW0]; go_simp
  have fW00 : ∀ o, W0.frozen? ⟨w.heap.size, o, none⟩ = false := by intro o; rw [hW0]; (repeat rw [frozen?_alloc_cells]); simp [World.frozen?]
  have zW00 : w.heap.size < W0.heap.size := by rw [hW0]; simp <;> omega
  have yW01_0 : W0.cell? ⟨w.heap.size + 1, 0, none⟩ = some (.int .i64 0) := by rw [hW0]; go_simp
  have yW01_1 : W0.cell? ⟨w.heap.size + 1, 1, none⟩ = some (.int .i64 0) := by rw [hW0]; go_simp
  have fW01 : ∀ o, W0.frozen? ⟨w.heap.size + 1, o, none⟩ = false := by intro o; rw [hW0]; (repeat rw [frozen?_alloc_cells]); simp [World.frozen?]
  have zW01 : w.heap.size + 1 < W0.heap.size := by rw [hW0]; simp <;> omega
  have BW0 : Below w.heap.size w W0 := by rw [hW0]; exact (Below.alloc (Below.alloc (Below.refl _ _) (by simp <;> omega) _) (by simp <;> omega) _)
  have eW0 : Hid (W0.heap.size = w.heap.size + 2) := Lib.hid (by rw [hW0]; simp)
  clear hW0
  have R0 : Hid (Bo2 W0 (w.heap.size + 1) 0 0) := Lib.hid ⟨zW01, yW01_0, yW01_1, fW01⟩
  clear yW01_0 yW01_1 fW01 fW00 eW0
  refine wp_region_AM 11 10 (W0) (obj := .cells #[.int .i64 0, .int .i64 0] 34) (by kernel_rfl) (by kernel_rfl) (by repeat (first | exact Below.refl _ _ | apply Below.drew)) rfl rfl (fun _ => by rfl) (fun _ _ => by first | rfl | go_simp) (fun S a v w w2 h => extract_pure rfl h) (fun _ _ _ _ h => h) ?_
  simp only [List.take_succ_cons, List.take_zero, List.drop_succ_cons, List.drop_zero]
  first | refine wpR_skip (by rfl) ?_ | (refine wpR_text (v := ?_) (by rfl) (fun W k1 => ?_) ?_; rotate_left; (obtain ⟨hc1, hf1⟩ := bcell k1;  go_simp; refine comes_v ?_; exact Below.refl _ _))
  (try simp only [Act.put, List.setIfInBounds_toArray, List.set_cons_zero, List.set_cons_succ])
  first | refine wpR_skip (by rfl) ?_ | (refine wpR_text (v := ?_) (by rfl) (fun W k1 => ?_) ?_; rotate_left; (obtain ⟨hc1, hf1⟩ := bcell k1;  go_simp; refine comes_v ?_; exact Below.refl _ _))
  (try simp only [Act.put, List.setIfInBounds_toArray, List.set_cons_zero, List.set_cons_succ])
  first | refine wpR_skip (by rfl) ?_ | (refine wpR_text (v := ?_) (by rfl) (fun W k1 => ?_) ?_; rotate_left; (obtain ⟨hc1, hf1⟩ := bcell k1;  go_simp; refine comes_v ?_; exact Below.refl _ _))
  (try simp only [Act.put, List.setIfInBounds_toArray, List.set_cons_zero, List.set_cons_succ])
  first | refine wpR_skip (by rfl) ?_ | (refine wpR_text (v := ?_) (by rfl) (fun W k1 => ?_) ?_; rotate_left; (obtain ⟨hc1, hf1⟩ := bcell k1;  go_simp; refine comes_v ?_; exact Below.refl _ _))
  (try simp only [Act.put, List.setIfInBounds_toArray, List.set_cons_zero, List.set_cons_succ])
  first | refine wpR_skip (by rfl) ?_ | (refine wpR_text (v := .agg #[.int .i64 m1, .int .i64 m2]) (by rfl) (fun W k1 => ?_) ?_; (obtain ⟨hc1, hf1⟩ := bcell k1;  go_simp; exact comes_c ( KM.out _) (fun wn hbn => hbn)))
  (try simp only [Act.put, List.setIfInBounds_toArray, List.set_cons_zero, List.set_cons_succ])
  first | refine wpR_skip (by rfl) ?_ | (refine wpR_text (v := ?_) (by rfl) (fun W k1 => ?_) ?_; rotate_left; (obtain ⟨hc1, hf1⟩ := bcell k1;  go_simp; refine comes_v ?_; exact Below.refl _ _))
  (try simp only [Act.put, List.setIfInBounds_toArray, List.set_cons_zero, List.set_cons_succ])
  first | refine wpR_skip (by rfl) ?_ | (refine wpR_text (v := .int .i64 st) (by rfl) (fun W k1 => ?_) ?_; (obtain ⟨hc1, hf1⟩ := bcell k1;  go_simp; exact comes_c ( KS.out _) (fun wn hbn => hbn)))
  (try simp only [Act.put, List.setIfInBounds_toArray, List.set_cons_zero, List.set_cons_succ])
  first | refine wpR_skip (by rfl) ?_ | (refine wpR_text (v := .tuple #[.agg #[.int .i64 d1, .int .i64 d2], .bool db]) (by rfl) (fun W k1 => ?_) ?_; (obtain ⟨hc1, hf1⟩ := bcell k1;  go_simp; exact comes_c ( KD.out _) (fun wn hbn => hbn)))
  (try simp only [Act.put, List.setIfInBounds_toArray, List.set_cons_zero, List.set_cons_succ])
  first | refine wpR_skip (by rfl) ?_ | (refine wpR_text (v := ?_) (by rfl) (fun W k1 => ?_) ?_; rotate_left; (obtain ⟨hc1, hf1⟩ := bcell k1;  go_simp; refine comes_v ?_; exact Below.refl _ _))
  (try simp only [Act.put, List.setIfInBounds_toArray, List.set_cons_zero, List.set_cons_succ])
  first | refine wpR_skip (by rfl) ?_ | (refine wpR_text (v := ?_) (by rfl) (fun W k1 => ?_) ?_; rotate_left; (obtain ⟨hc1, hf1⟩ := bcell k1;  go_simp; refine comes_v ?_; exact Below.refl _ _))
  (try simp only [Act.put, List.setIfInBounds_toArray, List.set_cons_zero, List.set_cons_succ])
  first | refine wpR_skip (by rfl) ?_ | (refine wpR_text (v := ?_) (by rfl) (fun W k1 => ?_) ?_; rotate_left; (obtain ⟨hc1, hf1⟩ := bcell k1;  go_simp; refine comes_v ?_; exact Below.refl _ _))
  (try simp only [Act.put, List.setIfInBounds_toArray, List.set_cons_zero, List.set_cons_succ])
  refine wpR_nil ?_
  intro W1 W k1 k2
  (try simp only [Act.put, List.setIfInBounds_toArray, List.set_cons_zero, List.set_cons_succ])
  have HA := Lib.hid (bo2_al (t := 34) k1 k2 d1 d2)
  have BAL := bo2_below (bo2_new W1 34) k2
  have zal := BAL.z
  have cal0 := BAL.c0
  have cal1 := BAL.c1
  have fal := BAL.f
  clear BAL k1 k2 yW00_0 yW00_1 yW00_2 yW00_3 yW00_4 yW00_5 zW00
  go_upto_region 2 with fail
  have HA2 := HA.out
  clear HA zal cal0 cal1 fal
  generalize W1.heap.size = g at *
  generalize ((W.setCell ⟨g, 0, none⟩ (.int .i64 d1)).setCell ⟨g, 1, none⟩ (.int .i64 d2)) = W2 at HA2 ⊢
  obtain ⟨L2, B2⟩ := HA2
  have RW := bo2_below R0.out B2
  have l0 := L2.c0
  have l1 := L2.c1
  have lz := L2.z
  have r0 := RW.c0
  have r1 := RW.c1
  have rf := RW.f
  have rz := RW.z
  have S := Lib.hid (bo2_set RW d1 d2)
  have BF := Lib.hid (((BW0.trans (B2.mono BW0.size)).setCell (p := ⟨w.heap.size + 1, 0, none⟩) (show w.heap.size ≤ w.heap.size + 1 by omega) (.int .i64 d1)).setCell (p := ⟨w.heap.size + 1, 1, none⟩) (show w.heap.size ≤ w.heap.size + 1 by omega) (.int .i64 d2))
  clear RW L2 B2
  go_wp2_with fail
  have s0 := S.out.c0
  have s1 := S.out.c1
  have sz := S.out.z
  refine bodyPost_ret (v := .agg #[.int .i64 d1, .int .i64 d2]) (by simp [results, Try.results79, go_sem, s0, s1, sz]) rfl ⟨rfl, BF.out⟩
end Go.Proofs.Ytjkfdcjfoliboaa
/- contract: the program's test of a polygon -/
namespace Go.Proofs.Ytjkfdcjfoliboaa
open Go.ChangeShapes Go.WideShapes Go.ChangeAt Go.RowKit Go.Joins
set_option linter.unusedVariables false
set_option linter.unusedSimpArgs false
set_option maxRecDepth 4000
set_option maxHeartbeats 4000000 in
theorem implIsPolygon_any (A : Option Addr) (c : Nat) (l : List (Int × Int)) (w : World) (hn : l.length ≤ 1048576) (hR : Rd w w.heap.size A l) :
    Calls Try.prog 38 #[.slice A l.length c] w fun e w' => e = .returned (.bool (goodB l)) ∧ Below w.heap.size w w' := by
  have KA := Lib.hid (fun W hb => arePegs_any A c l W hn (rd_more (rd_below hR hb (Nat.le_refl _)) hb.size))
  by_cases hlo : l.length < 3
  · have hng : Hid (goodB l = false) := Lib.hid (goodB_false (fun h => by have := h.few; omega))
    have d1 : ((l.length : Int) < 3) := by omega
    clear hR
    go_enter Try.func38, Try.ntmps38
    go_wp2_with fail
    go_ret
    exact ⟨ret_bool hng.out.symm, Below.refl _ _⟩
  · by_cases hhi : 10 < l.length
    · have hng : Hid (goodB l = false) := Lib.hid (goodB_false (fun h => by have := h.few; omega))
      have d1 : ¬ ((l.length : Int) < 3) := by omega
      have d2 : ((10 : Int) < (l.length : Int)) := by omega
      clear hR
      go_enter Try.func38, Try.ntmps38
      go_wp2_with fail
      go_ret
      exact ⟨ret_bool hng.out.symm, Below.refl _ _⟩
    · have d1 : ¬ ((l.length : Int) < 3) := by omega
      have d2 : ¬ ((10 : Int) < (l.length : Int)) := by omega
      by_cases hpg : pegsB l = true
      · have K1 := Lib.hid (KA.out w (Below.refl _ _))
        rw [hpg] at K1
        have hpe := (pegsB_iff l).1 hpg
        have HPE := Lib.hid hpe
        have KC := Lib.hid (fun W (hb : Below w.heap.size w W) => cornersAround_any A c l W (by omega) (by omega) (rd_more (rd_below hR hb (Nat.le_refl _)) hb.size))
        have HFEW := Lib.hid (show 3 ≤ l.length ∧ l.length ≤ 10 by omega)
        have HG := Lib.hid (fun h => goodB_false (l := l) h)
        have HT := Lib.hid (fun h => goodB_true (l := l) h)
        clear hpg hpe KA hR
        have hL1 : ((3 : Int) ≤ (l.length : Int)) := by omega
        have hL2 : ((l.length : Int) ≤ 10) := by omega
        clear hlo hhi
        generalize hN : l.length = n at *
        have HN := Lib.hid hN
        clear hN
        go_enter Try.func38, Try.ntmps38
        go_wp2_with fail
        refine K1.out.mono ?_; rintro e w1 ⟨rfl, hb1⟩
        go_wp2_with fail
        refine (KC.out w1 hb1).mono ?_; rintro e w2 ⟨rfl, hb2, hSC⟩
        have B2 : Below w.heap.size w w2 := hb1.trans (hb2.mono hb1.size)
        have hw1 := hb1.size
        obtain ⟨g, hg⟩ : ∃ g, g = w1.heap.size := ⟨_, rfl⟩
        rw [← hg] at hSC ⊢
        have hgs : g < w2.heap.size := hSC.1
        have CE : Hid (∀ W, Below w2.heap.size w2 W → ∀ i, i < n → (W.cell? ⟨g, i * 6, none⟩ = some (.int .i64 (vx l i).1) ∧ W.cell? ⟨g, i * 6 + 1, none⟩ = some (.int .i64 (vx l i).2) ∧ W.cell? ⟨g, i * 6 + 2, none⟩ = some (.int .i64 (vx l (i + n - 1)).1) ∧ W.cell? ⟨g, i * 6 + 3, none⟩ = some (.int .i64 (vx l (i + n - 1)).2) ∧ W.cell? ⟨g, i * 6 + 4, none⟩ = some (.int .i64 (vx l (i + 1)).1) ∧ W.cell? ⟨g, i * 6 + 5, none⟩ = some (.int .i64 (vx l (i + 1)).2))) := Lib.hid (fun W hW i hi => by
          obtain ⟨c0, c1, c2, c3, c4, c5⟩ := hSC.2.2 i hi
          have hc := (bcell hW).1
          exact ⟨(hc _ _ hgs).trans c0, (hc _ _ hgs).trans c1, (hc _ _ hgs).trans c2, (hc _ _ hgs).trans c3, (hc _ _ hgs).trans c4, (hc _ _ hgs).trans c5⟩)
        have TR : Hid (∀ W, Below w2.heap.size w2 W → Below w.heap.size w W) := Lib.hid (fun W hW => B2.trans (hW.mono B2.size))
        clear K1 KC hb1 hb2 hSC B2 hw1 hg
        go_wp2_with fail
        go_loopg [25] n (fun gg i wr => ∃ k : Nat, k ≤ n ∧ gg = n - k ∧ i = .int .i64 k ∧ Below w2.heap.size w2 wr ∧ Hid (Seen l k))
        case atStart => exact ⟨0, Nat.zero_le _, rfl, rfl, Below.refl _ _, Lib.hid (fun i h => absurd h (Nat.not_lt_zero _))⟩
        case round =>
          obtain ⟨k, hk, hgg, rfl, hB, hF⟩ := hrel
          rename World => wo
          have HGK := Lib.hid hgg
          clear hgg
          by_cases hlt : k < n
          · obtain ⟨x0, x1, x2, x3, x4, x5⟩ := CE.out wo hB k hlt
            have hzB := hB.size
            have hgo : g < wo.heap.size := by omega
            have z1 := sz_of (x := (vx l k).1) (y := (vx l k).2) (HPE.out k hlt)
            have z2 : Sz (vx l (k + n - 1)).1 (vx l (k + n - 1)).2 := sz_of (by rw [← HN.out, ← vx_per]; exact HPE.out _ (by rw [HN.out]; exact Nat.mod_lt _ (by omega)))
            have z3 : Sz (vx l (k + 1)).1 (vx l (k + 1)).2 := sz_of (by rw [← vx_per, HN.out]; exact HPE.out _ (Nat.mod_lt _ (by omega)))
            have T := Lib.hid (fun W => turn_any (vx l k).1 (vx l k).2 (vx l (k + n - 1)).1 (vx l (k + n - 1)).2 (vx l (k + 1)).1 (vx l (k + 1)).2 W z1 z2 z3)
            clear z1 z2 z3
            by_cases hz : twI (vx l (k + n - 1)).1 (vx l (k + n - 1)).2 (vx l k).1 (vx l k).2 (vx l (k + 1)).1 (vx l (k + 1)).2 = 0
            · rw [hz] at T
              have hng : Hid (goodB l = false) := Lib.hid (HG.out (fun h => (good_seen h k (by have := HN.out; omega)).1 (by rw [HN.out]; exact hz)))
              clear hz
              go_wp2_with fail
              refine (T.out _).mono ?_; rintro e w3 ⟨rfl, hb3⟩
              have B3 := Lib.hid (TR.out _ ((Below.alloc hB hzB (.cells #[.int .i64 (vx l k).1, .int .i64 (vx l k).2, .int .i64 (vx l (k + n - 1)).1, .int .i64 (vx l (k + n - 1)).2, .int .i64 (vx l (k + 1)).1, .int .i64 (vx l (k + 1)).2] 49)).trans (hb3.mono (by simp; omega))))
              go_wp2_with fail
              go_ret
              exact ⟨ret_bool hng.out.symm, B3.out⟩
            · have HTW : Hid (twP (vx l (k + l.length - 1)) (vx l k) (vx l (k + 1)) ≠ 0) := Lib.hid (by rw [HN.out]; exact hz)
              have hzb : (twI (vx l (k + n - 1)).1 (vx l (k + n - 1)).2 (vx l k).1 (vx l k).2 (vx l (k + 1)).1 (vx l (k + 1)).2 == 0) = false := by simpa using hz
              generalize twI (vx l (k + n - 1)).1 (vx l (k + n - 1)).2 (vx l k).1 (vx l k).2 (vx l (k + 1)).1 (vx l (k + 1)).2 = t at *
              go_wp2_with fail
              refine (T.out _).mono ?_; rintro e w3 ⟨rfl, hb3⟩
              have B3 := (Below.alloc hB hzB (.cells #[.int .i64 (vx l k).1, .int .i64 (vx l k).2, .int .i64 (vx l (k + n - 1)).1, .int .i64 (vx l (k + n - 1)).2, .int .i64 (vx l (k + 1)).1, .int .i64 (vx l (k + 1)).2] 49)).trans (hb3.mono (by simp; omega))
              have hz1 : wo.heap.size < w3.heap.size := by (have := hb3.size; simp at this; omega)
              have y0 : w3.cell? ⟨wo.heap.size, 0, none⟩ = some (.int .i64 (vx l k).1) := ((bcell hb3).1 _ _ (by simp)).trans (by go_simp)
              have y1 : w3.cell? ⟨wo.heap.size, 1, none⟩ = some (.int .i64 (vx l k).2) := ((bcell hb3).1 _ _ (by simp)).trans (by go_simp)
              have y2 : w3.cell? ⟨wo.heap.size, 2, none⟩ = some (.int .i64 (vx l (k + n - 1)).1) := ((bcell hb3).1 _ _ (by simp)).trans (by go_simp)
              have y3 : w3.cell? ⟨wo.heap.size, 3, none⟩ = some (.int .i64 (vx l (k + n - 1)).2) := ((bcell hb3).1 _ _ (by simp)).trans (by go_simp)
              have y4 : w3.cell? ⟨wo.heap.size, 4, none⟩ = some (.int .i64 (vx l (k + 1)).1) := ((bcell hb3).1 _ _ (by simp)).trans (by go_simp)
              have y5 : w3.cell? ⟨wo.heap.size, 5, none⟩ = some (.int .i64 (vx l (k + 1)).2) := ((bcell hb3).1 _ _ (by simp)).trans (by go_simp)
              clear x0 x1 x2 x3 x4 x5 hb3 T
              go_wp2_with fail
              clear hzb hz
              go_loopg [37] k (fun g2 j wi => ∃ m : Nat, m ≤ k ∧ g2 = k - m ∧ j = .int .i64 m ∧ Below w2.heap.size w2 wi ∧ wo.heap.size < wi.heap.size ∧ wi.cell? ⟨wo.heap.size, 0, none⟩ = some (.int .i64 (vx l k).1) ∧ wi.cell? ⟨wo.heap.size, 1, none⟩ = some (.int .i64 (vx l k).2) ∧ wi.cell? ⟨wo.heap.size, 2, none⟩ = some (.int .i64 (vx l (k + n - 1)).1) ∧ wi.cell? ⟨wo.heap.size, 3, none⟩ = some (.int .i64 (vx l (k + n - 1)).2) ∧ wi.cell? ⟨wo.heap.size, 4, none⟩ = some (.int .i64 (vx l (k + 1)).1) ∧ wi.cell? ⟨wo.heap.size, 5, none⟩ = some (.int .i64 (vx l (k + 1)).2) ∧ Hid (∀ j, j < m → vx l k ≠ vx l j ∧ crP (vx l k) (vx l (k + 1)) (vx l j) (vx l (j + 1)) = false))
              case atStart => exact ⟨0, Nat.zero_le _, rfl, rfl, B3, hz1, y0, y1, y2, y3, y4, y5, Lib.hid (fun j h => absurd h (Nat.not_lt_zero _))⟩
              case round =>
                clear y0 y1 y2 y3 y4 y5 B3 hz1
                obtain ⟨m, hm, hg2, rfl, hBi, hzi, v0, v1, v2, v3, v4, v5, hD⟩ := hrel
                have HGM := Lib.hid hg2
                clear hg2
                by_cases hlm : m < k
                · obtain ⟨q1, q2, r1, r2, s1, s2, hqe, hse, u0, u1, u2, u3, u4, u5⟩ : ∃ q1 q2 r1 r2 s1 s2, vx l m = (q1, q2) ∧ vx l (m + 1) = (s1, s2) ∧ wr.cell? ⟨g, m * 6, none⟩ = some (.int .i64 q1) ∧ wr.cell? ⟨g, m * 6 + 1, none⟩ = some (.int .i64 q2) ∧ wr.cell? ⟨g, m * 6 + 2, none⟩ = some (.int .i64 r1) ∧ wr.cell? ⟨g, m * 6 + 3, none⟩ = some (.int .i64 r2) ∧ wr.cell? ⟨g, m * 6 + 4, none⟩ = some (.int .i64 s1) ∧ wr.cell? ⟨g, m * 6 + 5, none⟩ = some (.int .i64 s2) := by
                    obtain ⟨t0, t1, t2, t3, t4, t5⟩ := CE.out wr hBi m (by omega)
                    exact ⟨_, _, _, _, _, _, rfl, rfl, t0, t1, t2, t3, t4, t5⟩
                  have hzi2 := hBi.size
                  have hgr : g < wr.heap.size := by omega
                  have n1 := HPE.out k hlt
                  have n2 : isPegB (vx l (k + 1)).1 (vx l (k + 1)).2 = true := by rw [← vx_per, HN.out]; exact HPE.out _ (Nat.mod_lt _ (by omega))
                  have n3 : isPegB q1 q2 = true := by have := HPE.out m (by omega); rw [hqe] at this; exact this
                  have n4 : isPegB s1 s2 = true := by have : isPg (vx l (m + 1)) = true := (by rw [← vx_per, HN.out]; exact HPE.out _ (Nat.mod_lt _ (by omega))); rw [hse] at this; exact this
                  have K := Lib.hid (fun W => isCrossing_any (vx l k).1 (vx l k).2 (vx l (k + n - 1)).1 (vx l (k + n - 1)).2 (vx l (k + 1)).1 (vx l (k + 1)).2 q1 q2 r1 r2 s1 s2 W n1 n2 n3 n4)
                  have HQE := Lib.hid hqe
                  have HSE := Lib.hid hse
                  clear n1 n2 n3 n4 hqe hse
                  by_cases heq : (vx l k).1 = q1 ∧ (vx l k).2 = q2
                  · have hng : Hid (goodB l = false) := Lib.hid (HG.out (fun h => h.diff k m hlm (by have := HN.out; omega) (by rw [HQE.out]; exact Prod.ext heq.1 heq.2)))
                    obtain ⟨rfl, rfl⟩ := heq
                    have B5 := Lib.hid (TR.out _ (Below.alloc hBi hzi2 (.cells #[.int .i64 (vx l k).1, .int .i64 (vx l k).2, .int .i64 r1, .int .i64 r2, .int .i64 s1, .int .i64 s2] 49)))
                    go_wp2_with fail
                    go_ret
                    exact ⟨ret_bool hng.out.symm, B5.out⟩
                  · have hne : vx l k ≠ vx l m := fun e => heq (by rw [HQE.out] at e; rw [e]; exact ⟨rfl, rfl⟩)
                    have HNE := Lib.hid hne
                    by_cases hcr : crB (vx l k).1 (vx l k).2 (vx l (k + 1)).1 (vx l (k + 1)).2 q1 q2 s1 s2 = true
                    · have hng : Hid (goodB l = false) := Lib.hid (HG.out (fun h => by
                        have := ((good_seen h k (by have := HN.out; omega)).2 m hlm).2
                        rw [HQE.out, HSE.out] at this
                        unfold crP at this
                        rw [hcr] at this
                        cases this))
                      rw [hcr] at K
                      clear hcr hne
                      by_cases h1 : (vx l k).1 = q1
                      · have h2 : ¬ (vx l k).2 = q2 := fun h => heq ⟨h1, h⟩
                        clear heq
                        subst h1
                        go_wp2_with fail
                        refine (K.out _).mono ?_; rintro e w4 ⟨rfl, hb4⟩
                        have B4 := (Below.alloc hBi hzi2 (.cells #[.int .i64 (vx l k).1, .int .i64 q2, .int .i64 r1, .int .i64 r2, .int .i64 s1, .int .i64 s2] 49)).trans (hb4.mono (by simp; omega))
                        have B5 := Lib.hid (TR.out _ B4)
                        go_wp2_with fail
                        go_ret
                        exact ⟨ret_bool hng.out.symm, B5.out⟩
                      · clear heq
                        go_wp2_with fail
                        refine (K.out _).mono ?_; rintro e w4 ⟨rfl, hb4⟩
                        have B4 := (Below.alloc hBi hzi2 (.cells #[.int .i64 q1, .int .i64 q2, .int .i64 r1, .int .i64 r2, .int .i64 s1, .int .i64 s2] 49)).trans (hb4.mono (by simp; omega))
                        have B5 := Lib.hid (TR.out _ B4)
                        go_wp2_with fail
                        go_ret
                        exact ⟨ret_bool hng.out.symm, B5.out⟩
                    · have hcf : crB (vx l k).1 (vx l k).2 (vx l (k + 1)).1 (vx l (k + 1)).2 q1 q2 s1 s2 = false := by simpa using hcr
                      have hD2 : Hid (∀ j, j < m + 1 → vx l k ≠ vx l j ∧ crP (vx l k) (vx l (k + 1)) (vx l j) (vx l (j + 1)) = false) := Lib.hid (fun j hj => by
                        by_cases hjm : j = m
                        · subst hjm; exact ⟨HNE.out, by rw [HQE.out, HSE.out]; exact hcf⟩
                        · exact hD.out j (by omega))
                      rw [hcf] at K
                      clear hcr hcf hne hD
                      by_cases h1 : (vx l k).1 = q1
                      · have h2 : ¬ (vx l k).2 = q2 := fun h => heq ⟨h1, h⟩
                        clear heq
                        subst h1
                        go_wp2_with fail
                        refine (K.out _).mono ?_; rintro e w4 ⟨rfl, hb4⟩
                        have B4 := (Below.alloc hBi hzi2 (.cells #[.int .i64 (vx l k).1, .int .i64 q2, .int .i64 r1, .int .i64 r2, .int .i64 s1, .int .i64 s2] 49)).trans (hb4.mono (by simp; omega))
                        have zz : wo.heap.size < w4.heap.size := by (have := hb4.size; simp at this; omega)
                        have Y0 := Lib.hid (((bcell hb4).1 _ 0 (by simp; omega)).trans ((World.cell?_alloc_lt wr _ _ hzi).trans v0))
                        have Y1 := Lib.hid (((bcell hb4).1 _ 1 (by simp; omega)).trans ((World.cell?_alloc_lt wr _ _ hzi).trans v1))
                        have Y2 := Lib.hid (((bcell hb4).1 _ 2 (by simp; omega)).trans ((World.cell?_alloc_lt wr _ _ hzi).trans v2))
                        have Y3 := Lib.hid (((bcell hb4).1 _ 3 (by simp; omega)).trans ((World.cell?_alloc_lt wr _ _ hzi).trans v3))
                        have Y4 := Lib.hid (((bcell hb4).1 _ 4 (by simp; omega)).trans ((World.cell?_alloc_lt wr _ _ hzi).trans v4))
                        have Y5 := Lib.hid (((bcell hb4).1 _ 5 (by simp; omega)).trans ((World.cell?_alloc_lt wr _ _ hzi).trans v5))
                        clear hb4
                        go_wp2_with fail
                        go_roundg (k - (m + 1))
                        case measure => have := HGM.out; omega
                        case rel => exact ⟨m + 1, by omega, rfl, by go_num, B4, zz, Y0.out, Y1.out, Y2.out, Y3.out, Y4.out, Y5.out, hD2⟩
                      · clear heq
                        go_wp2_with fail
                        refine (K.out _).mono ?_; rintro e w4 ⟨rfl, hb4⟩
                        have B4 := (Below.alloc hBi hzi2 (.cells #[.int .i64 q1, .int .i64 q2, .int .i64 r1, .int .i64 r2, .int .i64 s1, .int .i64 s2] 49)).trans (hb4.mono (by simp; omega))
                        have zz : wo.heap.size < w4.heap.size := by (have := hb4.size; simp at this; omega)
                        have Y0 := Lib.hid (((bcell hb4).1 _ 0 (by simp; omega)).trans ((World.cell?_alloc_lt wr _ _ hzi).trans v0))
                        have Y1 := Lib.hid (((bcell hb4).1 _ 1 (by simp; omega)).trans ((World.cell?_alloc_lt wr _ _ hzi).trans v1))
                        have Y2 := Lib.hid (((bcell hb4).1 _ 2 (by simp; omega)).trans ((World.cell?_alloc_lt wr _ _ hzi).trans v2))
                        have Y3 := Lib.hid (((bcell hb4).1 _ 3 (by simp; omega)).trans ((World.cell?_alloc_lt wr _ _ hzi).trans v3))
                        have Y4 := Lib.hid (((bcell hb4).1 _ 4 (by simp; omega)).trans ((World.cell?_alloc_lt wr _ _ hzi).trans v4))
                        have Y5 := Lib.hid (((bcell hb4).1 _ 5 (by simp; omega)).trans ((World.cell?_alloc_lt wr _ _ hzi).trans v5))
                        clear hb4
                        go_wp2_with fail
                        go_roundg (k - (m + 1))
                        case measure => have := HGM.out; omega
                        case rel => exact ⟨m + 1, by omega, rfl, by go_num, B4, zz, Y0.out, Y1.out, Y2.out, Y3.out, Y4.out, Y5.out, hD2⟩
                · have hmk : m = k := by omega
                  have hF2 : Hid (Seen l (k + 1)) := Lib.hid (fun i hi => by
                    by_cases hik : i = k
                    · subst hik; exact ⟨HTW.out, fun j hj => hD.out j (by omega)⟩
                    · exact hF.out i (by omega))
                  clear hD hF
                  go_wp2_with fail
                  go_roundg (n - (k + 1))
                  case measure => have := HGK.out; omega
                  case rel => exact ⟨k + 1, by omega, rfl, by go_num, hBi, hF2⟩
          · have hkn : n = k := by omega
            subst hkn
            have hy : Hid (goodB l = true) := Lib.hid (HT.out (seen_good (by have := HFEW.out; have := HN.out; omega) (fun i hi => HPE.out i (by have := HN.out; omega)) (by have := HN.out; rw [this]; exact hF.out)))
            have BB := Lib.hid (TR.out _ hB)
            go_wp2_with fail
            go_ret
            exact ⟨ret_bool hy.out.symm, BB.out⟩
      · have hpf : pegsB l = false := by simpa using hpg
        have hng : Hid (goodB l = false) := Lib.hid (goodB_false (fun h => hpg ((pegsB_iff l).2 h.pegs)))
        have K1 := Lib.hid (KA.out w (Below.refl _ _))
        rw [hpf] at K1
        clear hpf hpg KA hR hlo hhi
        go_enter Try.func38, Try.ntmps38
        go_wp2_with fail
        refine K1.out.mono ?_; rintro e w1 ⟨rfl, hb1⟩
        go_wp2_with fail
        go_ret
        exact ⟨ret_bool hng.out.symm, hb1⟩
end Go.Proofs.Ytjkfdcjfoliboaa
/- contract: the points of whole numbers on the lines, the program -/
namespace Go.Proofs.Ytjkfdcjfoliboaa
open Go.ChangeShapes Go.WideShapes Go.ChangeAt Go.RowKit Go.Joins
set_option linter.unusedVariables false
set_option linter.unusedSimpArgs false
set_option maxRecDepth 4000
/-- a corner's box, and that it is no row of points -/
structure Crn (w : World) (g : Nat) (a1 a2 f1 f2 b1 b2 : Int) : Prop where
  h : w.heap[g]? = some (.cells #[.int .i64 a1, .int .i64 a2, .int .i64 f1, .int .i64 f2, .int .i64 b1, .int .i64 b2] 49 (0, 0))
theorem crn_z {w : World} {g : Nat} {a1 a2 f1 f2 b1 b2 : Int} (c : Crn w g a1 a2 f1 f2 b1 b2) : g < w.heap.size := (Array.getElem?_eq_some_iff.1 c.h).1
theorem crn_below {w w' : World} {g : Nat} {a1 a2 f1 f2 b1 b2 : Int} (c : Crn w g a1 a2 f1 f2 b1 b2) (hb : Below w.heap.size w w') : Crn w' g a1 a2 f1 f2 b1 b2 := ⟨(hb.block g (crn_z c)).trans c.h⟩
theorem crn_block {w w' : World} {g : Nat} {a1 a2 f1 f2 b1 b2 : Int} (c : Crn w g a1 a2 f1 f2 b1 b2) (hb : w'.heap[g]? = w.heap[g]?) : Crn w' g a1 a2 f1 f2 b1 b2 := ⟨hb.trans c.h⟩
theorem crn_cells {w : World} {g : Nat} {a1 a2 f1 f2 b1 b2 : Int} (c : Crn w g a1 a2 f1 f2 b1 b2) : w.cell? ⟨g, 0, none⟩ = some (.int .i64 a1) ∧ w.cell? ⟨g, 1, none⟩ = some (.int .i64 a2) ∧ w.cell? ⟨g, 2, none⟩ = some (.int .i64 f1) ∧ w.cell? ⟨g, 3, none⟩ = some (.int .i64 f2) ∧ w.cell? ⟨g, 4, none⟩ = some (.int .i64 b1) ∧ w.cell? ⟨g, 5, none⟩ = some (.int .i64 b2) := by
  have k := fun j => cell_of_row w g j _ 49 (0, 0) c.h
  exact ⟨(k 0).trans rfl, (k 1).trans rfl, (k 2).trans rfl, (k 3).trans rfl, (k 4).trans rfl, (k 5).trans rfl⟩
theorem crn_new (w : World) (a1 a2 f1 f2 b1 b2 : Int) : Crn (w.alloc (.cells #[.int .i64 a1, .int .i64 a2, .int .i64 f1, .int .i64 f2, .int .i64 b1, .int .i64 b2] 49)) w.heap.size a1 a2 f1 f2 b1 b2 := ⟨heap_alloc_new w _⟩
/-- the row's block is older than the walker's box, and not the corner's -/
def Apt (v : Value) (pb cb : Nat) : Prop := ∀ r, v.ownBlock = some r → r < pb ∧ r ≠ cb
theorem apt_new {w : World} {base pb cb : Nat} {v : Value} {m : List (Int × Int)} {a1 a2 f1 f2 b1 b2 : Int} (hr : RowL w base v m) (hc : Crn w cb a1 a2 f1 f2 b1 b2) (hp : w.heap.size ≤ pb) : Apt v pb cb := by
  intro r hrr
  refine ⟨Nat.lt_of_lt_of_le (World.ownsRow.lt hr r hrr).2 hp, fun e => ?_⟩
  subst e
  obtain ⟨_, h2⟩ := hr
  rcases h2 with ⟨hv, _⟩ | ⟨g, cap, cur, hv, _, hh, _⟩
  · rw [hv] at hrr; cases hrr
  · rw [hv] at hrr
    have e : g = r := by simpa [Value.ownBlock] using hrr
    subst e
    rw [hc.h] at hh
    injection hh with hh
    injection hh with _ h3
    exact absurd h3 (by decide)
theorem bo2_block {w w' : World} {g : Nat} {a b : Int} (h : Bo2 w g a b) (hb : w'.heap[g]? = w.heap[g]?) (hz : w.heap.size ≤ w'.heap.size) : Bo2 w' g a b :=
  ⟨by have := h.z; omega, (World.cell?_of_block (w := w) hb).trans h.c0, (World.cell?_of_block (w := w) hb).trans h.c1, fun o => (World.frozen?_of_block (w := w) hb).trans (h.f o)⟩
theorem heap_set2 (w : World) (g k : Nat) (u v : Value) (hk : k ≠ g) : ((w.setCell ⟨g, 0, none⟩ u).setCell ⟨g, 1, none⟩ v).heap[k]? = w.heap[k]? :=
  (Below.heap_setCell _ _ _ k hk).trans (Below.heap_setCell _ _ _ k hk)
theorem crn_set2 {w : World} {g k : Nat} {a1 a2 f1 f2 b1 b2 : Int} (c : Crn w g a1 a2 f1 f2 b1 b2) (hk : g ≠ k) (u v : Value) : Crn ((w.setCell ⟨k, 0, none⟩ u).setCell ⟨k, 1, none⟩ v) g a1 a2 f1 f2 b1 b2 := ⟨(heap_set2 w k g u v hk).trans c.h⟩
theorem rowL_set2 {w : World} {base k : Nat} {v : Value} {m : List (Int × Int)} (h : RowL w base v m) (hk : ∀ r, v.ownBlock = some r → r ≠ k) (x y : Value) : RowL ((w.setCell ⟨k, 0, none⟩ x).setCell ⟨k, 1, none⟩ y) base v m := by
  obtain ⟨h1, h2⟩ := h
  rcases h2 with h2 | ⟨g, cap, cur, hv, hg, hh, r⟩
  · exact ⟨h1, .inl h2⟩
  · exact ⟨h1, .inr ⟨g, cap, cur, hv, hg, (heap_set2 w k g x y (hk g (by rw [hv]; rfl))).trans hh, r⟩⟩
theorem firsts_app (m : List (Int × Int)) (f : Nat → Int × Int) (k : Nat) : m ++ firsts f (k + 1) = (m ++ firsts f k) ++ [f k] := by rw [firsts_succ, List.append_assoc]
set_option maxHeartbeats 2000000 in
theorem pegsAround_any (A : Option Addr) (c : Nat) (t : List (Int × Int)) (w : World) (ht : Rng t) (hR : Rd w w.heap.size A t) :
    Calls Try.prog 57 #[.slice A t.length c] w (RetP w (arL t)) := by
  have h1 := ht.few.1
  have h10 := ht.few.2
  have KC := Lib.hid (fun W (hb : Below w.heap.size w W) => cornersAround_any A c t W h1 h10 (rd_more (rd_below hR hb (Nat.le_refl _)) hb.size))
  have HP := Lib.hid (fun i => rng_peg ht i)
  have HD := Lib.hid (fun i (hi : i < t.length) => ht.diff i hi)
  have HL := Lib.hid (fun i (hi : i ≤ t.length) => ar_len ht i hi)
  obtain ⟨i0, hi0, hz0, hz1, hz2⟩ := info_parts peg_info
  have HI := Lib.hid (And.intro hi0 (And.intro hz0 (And.intro hz1 hz2)))
  clear hi0 hz0 hz1 hz2 hR ht
  have HS : Hid (∀ i, arR t (i + 1) = arR t i ++ firsts (lnP (vx t i) (vx t (i + 1))) (MJ.St (vx t i) (vx t (i + 1)))) := Lib.hid (fun _ => rfl)
  have HE : Hid (arL t = arR t t.length) := Lib.hid rfl
  have HN : Hid (∀ v W W0, Below w.heap.size w W0 → RowL W W0.heap.size v (arL t) → Below W0.heap.size W0 W → RetP w (arL t) (.returned v) W) := Lib.hid (fun v W W0 h0 h hb => by
    obtain ⟨A, c, e, q1, q2, q3, q4⟩ := retP_rowL h hb
    exact ⟨A, c, e, q1, q2, h0.trans (q3.mono h0.size), rw_more q4 h0.size (Nat.le_refl _)⟩)
  generalize hQ : RetP w (arL t) = Q
  rw [hQ] at HN
  clear hQ
  generalize hNN : t.length = n at *
  have HNN := Lib.hid hNN
  clear hNN
  go_enter Try.func57, Try.ntmps57
  go_wp2_with fail
  refine (KC.out w (Below.refl _ _)).mono ?_; rintro e w2 ⟨rfl, hb2, hSC⟩
  obtain ⟨g, hg⟩ : ∃ g, g = w.heap.size := ⟨_, rfl⟩
  rw [← hg] at hSC ⊢
  have hgs : g < w2.heap.size := hSC.1
  have CE : Hid (∀ W, Below w2.heap.size w2 W → ∀ i, i < n → (W.cell? ⟨g, i * 6, none⟩ = some (.int .i64 (vx t i).1) ∧ W.cell? ⟨g, i * 6 + 1, none⟩ = some (.int .i64 (vx t i).2) ∧ W.cell? ⟨g, i * 6 + 2, none⟩ = some (.int .i64 (vx t (i + n - 1)).1) ∧ W.cell? ⟨g, i * 6 + 3, none⟩ = some (.int .i64 (vx t (i + n - 1)).2) ∧ W.cell? ⟨g, i * 6 + 4, none⟩ = some (.int .i64 (vx t (i + 1)).1) ∧ W.cell? ⟨g, i * 6 + 5, none⟩ = some (.int .i64 (vx t (i + 1)).2))) := Lib.hid (fun W hW i hi => by
    obtain ⟨c0, c1, c2, c3, c4, c5⟩ := hSC.2.2 i hi
    have hc := (bcell hW).1
    exact ⟨(hc _ _ hgs).trans c0, (hc _ _ hgs).trans c1, (hc _ _ hgs).trans c2, (hc _ _ hgs).trans c3, (hc _ _ hgs).trans c4, (hc _ _ hgs).trans c5⟩)
  have BW2 := Lib.hid hb2
  clear KC hb2 hSC hg
  go_wp2_with fail
  go_loopg [3, 10] n (fun gg s x wr => ∃ (i : Nat) (v : Value), v = s ∧ i ≤ n ∧ gg = n - i ∧ x = .int .i64 i ∧ Below w2.heap.size w2 wr ∧ Hid (RowL wr w2.heap.size v (arR t i)))
  case atStart => exact ⟨0, _, rfl, Nat.zero_le _, rfl, rfl, Below.refl _ _, Lib.hid (rowL_nil _ _)⟩
  case round =>
    obtain ⟨i, v, rfl, hi, hgg, rfl, hB, hr⟩ := hrel
    rename World => wo
    have HGK := Lib.hid hgg
    clear hgg
    by_cases hlt : i < n
    · obtain ⟨a1, a2, ha⟩ : ∃ a1 a2, vx t i = (a1, a2) := ⟨_, _, rfl⟩
      obtain ⟨b1, b2, hb⟩ : ∃ b1 b2, vx t (i + 1) = (b1, b2) := ⟨_, _, rfl⟩
      obtain ⟨f1, f2, hf⟩ : ∃ f1 f2, vx t (i + n - 1) = (f1, f2) := ⟨_, _, rfl⟩
      have hS1 := HS.out i
      have pa := HP.out i
      have pb := HP.out (i + 1)
      have hd := HD.out i hlt
      have hL1 := HL.out i (by omega)
      obtain ⟨x0, x1, x2, x3, x4, x5⟩ := CE.out wo hB i hlt
      rw [ha] at x0 x1 hS1 pa hd
      rw [hf] at x2 x3
      rw [hb] at x4 x5 hS1 pb hd
      simp only [] at x0 x1 x2 x3 x4 x5
      have hst := st_bd hd pa pb
      have KS := Lib.hid (fun W => cornerStep_any (a1, a2) (b1, b2) f1 f2 W pa pb hd)
      have LE : Hid (lnP (a1, a2) (b1, b2) (MJ.St (a1, a2) (b1, b2)) = (b1, b2)) := Lib.hid (ln_end hd)
      have LNE := Lib.hid (fun k (hk : k < MJ.St (a1, a2) (b1, b2)) => ln_ne hd hk)
      have LBD := Lib.hid (fun k (hk : k ≤ MJ.St (a1, a2) (b1, b2)) => ln_bd hd pa pb hk)
      have LSC := Lib.hid (fun k => ln_succ (a1, a2) (b1, b2) k)
      have LZ : Hid (lnP (a1, a2) (b1, b2) 0 = (a1, a2)) := Lib.hid (ln_zero _ _)
      have hdv := dv_bd hd pa pb
      have HS1 := Lib.hid hS1
      have FZ : Hid (∀ f : Nat → Int × Int, firsts f 0 = []) := Lib.hid (fun _ => rfl)
      generalize dvP (a1, a2) (b1, b2) = d at *
      obtain ⟨d1, d2⟩ := d
      generalize lnP (a1, a2) (b1, b2) = f at *
      generalize MJ.St (a1, a2) (b1, b2) = st at *
      generalize arR t i = m0 at *
      generalize hm1 : arR t (i + 1) = m1 at *
      have HM1 := Lib.hid hm1
      clear hm1
      clear hS1 pa pb hd ha hb hf
      simp only [] at KS hdv
      have hzB := hB.size
      have hgo : g < wo.heap.size := by omega
      go_wp2_with fail
      have hC := crn_new wo a1 a2 f1 f2 b1 b2
      have hC2 := crn_below hC (Below.alloc (Below.refl _ _) (Nat.le_refl _) (.cells #[.int .i64 a1, .int .i64 a2] 34))
      have hBn := Below.alloc (Below.alloc (Below.refl wo.heap.size wo) (Nat.le_refl _) (.cells #[.int .i64 a1, .int .i64 a2, .int .i64 f1, .int .i64 f2, .int .i64 b1, .int .i64 b2] 49)) (by simp) (.cells #[.int .i64 a1, .int .i64 a2] 34)
      have hPb : Bo2 ((wo.alloc (.cells #[.int .i64 a1, .int .i64 a2, .int .i64 f1, .int .i64 f2, .int .i64 b1, .int .i64 b2] 49)).alloc (.cells #[.int .i64 a1, .int .i64 a2] 34)) (wo.heap.size + 1) a1 a2 := ⟨by simp, by go_simp, by go_simp, fun o => by rw [frozen?_alloc_cells, frozen?_alloc_cells]; simp [World.frozen?]⟩
      generalize ((wo.alloc (.cells #[.int .i64 a1, .int .i64 a2, .int .i64 f1, .int .i64 f2, .int .i64 b1, .int .i64 b2] 49)).alloc (.cells #[.int .i64 a1, .int .i64 a2] 34)) = Wb at *
      have R0 := Lib.hid (rowL_below hr.out hBn (Nat.le_refl _))
      have A0 : Hid (Apt v (wo.heap.size + 1) wo.heap.size) := Lib.hid (fun r h => by have := (World.ownsRow.lt hr.out r h).2; omega)
      have C0 := Lib.hid hC2
      have P0 := Lib.hid hPb
      have B0 := hB.trans (hBn.mono hzB)
      have hzp : w2.heap.size ≤ wo.heap.size + 1 := by omega
      obtain ⟨cb, hcb⟩ : ∃ cb, cb = wo.heap.size := ⟨_, rfl⟩
      rw [← hcb] at A0 C0 P0 hzp ⊢
      clear hC hC2 hBn hPb hr hB hcb x0 x1 x2 x3 x4 x5 hzB hgo
      go_loopg [3, 6] st (fun gg s x wr => ∃ (j : Nat) (v : Value) (pb : Nat), v = s ∧ j ≤ st ∧ gg = st - j ∧ x = .pointer (some ⟨pb, 0, none⟩) ∧ Below w2.heap.size w2 wr ∧ Hid (RowL wr w2.heap.size v (m0 ++ firsts f j)) ∧ Hid (Bo2 wr pb (f j).1 (f j).2) ∧ Hid (Crn wr cb a1 a2 f1 f2 b1 b2) ∧ Hid (Apt v pb cb) ∧ w2.heap.size ≤ pb)
      case atStart => exact ⟨0, v, cb + 1, rfl, Nat.zero_le _, rfl, rfl, B0, Lib.hid (by rw [FZ.out, List.append_nil]; exact R0.out), Lib.hid (by rw [LZ.out]; exact P0.out), C0, A0, hzp⟩
      case round =>
        clear B0 R0 P0 C0 A0 hzp
        rename Value => v0
        obtain ⟨j, v, pb, rfl, hj, hgg, rfl, hB, hr, hp, hc, ha, hpz⟩ := hrel
        have HGJ := Lib.hid hgg
        clear hgg
        have hzB := hB.size
        obtain ⟨x, y, hxy⟩ : ∃ x y, f j = (x, y) := ⟨_, _, rfl⟩
        rw [hxy] at hp
        have u0 : wr.cell? ⟨pb, 0, none⟩ = some (.int .i64 x) := hp.out.c0
        have u1 : wr.cell? ⟨pb, 1, none⟩ = some (.int .i64 y) := hp.out.c1
        have uz := hp.out.z
        obtain ⟨c0, c1, c2, c3, c4, c5⟩ := crn_cells hc.out
        have cz := crn_z hc.out
        by_cases hlj : j < st
        · have hne : ¬ (x = b1 ∧ y = b2) := fun h => LNE.out j hlj (by rw [hxy, h.1, h.2])
          have hbd := LBD.out j (by omega)
          rw [hxy] at hbd
          have HSC : Hid (f (j + 1) = (x + d1, y + d2)) := Lib.hid (by rw [LSC.out, hxy])
          have HMM : Hid (m0 ++ firsts f (j + 1) = (m0 ++ firsts f j) ++ [(x, y)]) := Lib.hid (by rw [firsts_app, hxy])
          have hml : (m0 ++ firsts f j).length ≤ 2000 := by rw [List.length_append, firsts_len]; omega
          have KP := Lib.hid (fun W => plus_any x y d1 d2 W (by unfold Mid; omega) (by unfold Mid; omega) (by unfold Mid; omega) (by unfold Mid; omega))
          generalize m0 ++ firsts f j = m at *
          clear hxy hbd
          by_cases hx : x = b1
          · have hy : ¬ y = b2 := fun h => hne ⟨hx, h⟩
            clear hne
            subst hx
            go_wp2_with (at_builtin; go_loud (refine wpList_append_own _ rfl (.tmp 24) (.tmp 26) 26 rfl w2.heap.size 34 i0 (.agg #[.int .i64 0, .int .i64 0]) 2 16 Try.underlying26 HI.out.1 HI.out.2.1 HI.out.2.2.1 HI.out.2.2.2 rfl (by decide) _ m.length (flat m) rfl (rowL_alloc hr.out _) ⟨wr.heap.size, 0, none⟩ 1 1 [.int .i64 x, .int .i64 y] rfl rfl (two_cells (by go_simp) (by go_simp)) (two_one _ _) (by unfold maxLen; omega) (by omega) (by simp; omega) ?_))
            intro v' w4 hown hgr _
            have RB := rowL_push (Below.alloc hB hzB _) (rowL_alloc hr.out _) hown hgr
            have R4 := Lib.hid (show RowL w4 w2.heap.size v' (m0 ++ firsts f (j + 1)) from by rw [HMM.out]; exact RB.1)
            have B4 := RB.2
            have P4 := bo2_block (bo2_below hp.out (Below.alloc (Below.refl _ _) (Nat.le_refl _) (.cells #[.int .i64 x, .int .i64 y] 34))) (hgr.block pb (by have := hp.out.z; simp; omega) (fun e => by have := (ha.out pb e.symm).1; omega)) hgr.size
            have C4 := Lib.hid (crn_block (crn_below hc.out (Below.alloc (Below.refl _ _) (Nat.le_refl _) (.cells #[.int .i64 x, .int .i64 y] 34))) (hgr.block cb (by have := crn_z hc.out; simp; omega) (fun e => (ha.out cb e.symm).2 rfl)))
            have A4 := Lib.hid (apt_new R4.out C4.out (Nat.le_refl _))
            have q0 := P4.c0
            have q1 := P4.c1
            have qz := P4.z
            have hz4 := B4.size
            clear RB hown hgr P4 hB hr hp hc ha hzB c0 c1 c2 c3 c4 c5 cz u0 u1 uz
            obtain ⟨c0, c1, c2, c3, c4, c5⟩ := crn_cells C4.out
            have cz := crn_z C4.out
            go_wp2_with fail
            obtain ⟨Wc, hWc⟩ : ∃ Wc, Wc = (w4.alloc (.cells #[.int .i64 x, .int .i64 y] 34)) := ⟨_, rfl⟩
            rw [← hWc]
            have yWc0_0 : Wc.cell? ⟨w4.heap.size, 0, none⟩ = some (.int .i64 x) := by rw [hWc]; go_simp
            have yWc0_1 : Wc.cell? ⟨w4.heap.size, 1, none⟩ = some (.int .i64 y) := by rw [hWc]; go_simp
            have fWc0 : ∀ o, Wc.frozen? ⟨w4.heap.size, o, none⟩ = false := by intro o; rw [hWc]; (repeat rw [frozen?_alloc_cells]); simp [World.frozen?]
            have zWc0 : w4.heap.size < Wc.heap.size := by rw [hWc]; simp <;> omega
            have BWc : Below w4.heap.size w4 Wc := by rw [hWc]; exact (Below.alloc (Below.refl _ _) (by simp <;> omega) _)
            have eWc : Hid (Wc.heap.size = w4.heap.size + 1) := Lib.hid (by rw [hWc]; simp)
            clear hWc
            have R5 := Lib.hid (rowL_below R4.out BWc (Nat.le_refl _))
            have C5 := Lib.hid (crn_below C4.out BWc)
            have B5 := B4.trans (BWc.mono hz4)
            clear c0 c1 c2 c3 c4 c5 q0 q1 qz cz
            obtain ⟨c0, c1, c2, c3, c4, c5⟩ := crn_cells C5.out
            have cz := crn_z C5.out
            have P5 := Lib.hid (show Bo2 Wc w4.heap.size x y from ⟨zWc0, yWc0_0, yWc0_1, fWc0⟩)
            have zc4 := crn_z C4.out
            clear R4 C4 B4 BWc fWc0 eWc
            obtain ⟨pc, hpc⟩ : ∃ pc, pc = w4.heap.size := ⟨_, rfl⟩
            rw [← hpc] at P5 A4 yWc0_0 yWc0_1 zWc0 ⊢
            have hccp : cb ≠ pc := by omega
            have hpz' : w2.heap.size ≤ pc := by omega
            clear hpc hz4
            refine wp_region_BT 4 (fun W => Below (Wc).heap.size (Wc) W) (by kernel_rfl) (by kernel_rfl) (by repeat (first | exact Below.refl _ _ | apply Below.drew)) ?_
            simp only [List.take_succ_cons, List.take_zero, List.drop_succ_cons, List.drop_zero]
            first | refine wpH_skip (by rfl) ?_ | (refine wpH_text (v := ?_) (by rfl) (fun W k1 => ?_) ?_; rotate_left; (obtain ⟨hc1, hf1⟩ := bcell k1;  go_simp; refine comes_v ?_; exact k1))
            (try simp only [Act.put, List.setIfInBounds_toArray, List.set_cons_zero, List.set_cons_succ])
            first | refine wpH_skip (by rfl) ?_ | (refine wpH_text (v := ?_) (by rfl) (fun W k1 => ?_) ?_; rotate_left; (obtain ⟨hc1, hf1⟩ := bcell k1;  go_simp; refine comes_v ?_; exact k1))
            (try simp only [Act.put, List.setIfInBounds_toArray, List.set_cons_zero, List.set_cons_succ])
            first | refine wpH_skip (by rfl) ?_ | (refine wpH_text (v := .agg #[.int .i64 d1, .int .i64 d2]) (by rfl) (fun W k1 => ?_) ?_; (obtain ⟨hc1, hf1⟩ := bcell k1;  go_simp; exact comes_c ( KS.out _) (fun wn hbn => k1.trans (hbn.mono k1.size))))
            (try simp only [Act.put, List.setIfInBounds_toArray, List.set_cons_zero, List.set_cons_succ])
            first | refine wpH_skip (by rfl) ?_ | (refine wpH_text (v := .agg #[.int .i64 (x + d1), .int .i64 (y + d2)]) (by rfl) (fun W k1 => ?_) ?_; (obtain ⟨hc1, hf1⟩ := bcell k1;  go_simp; exact comes_c ( KP.out _) (fun wn hbn => k1.trans (hbn.mono k1.size))))
            (try simp only [Act.put, List.setIfInBounds_toArray, List.set_cons_zero, List.set_cons_succ])
            refine wpH_nil ?_
            intro W k1; obtain ⟨hc1, hf1⟩ := bcell k1
            have R6 := Lib.hid (rowL_below R5.out k1 (Nat.le_refl _))
            have C6 := Lib.hid (crn_below C5.out k1)
            have P6 := bo2_below P5.out k1
            have B6 := B5.trans (k1.mono B5.size)
            have P7 := Lib.hid (bo2_set P6 (x + d1) (y + d2))
            have B7 := Lib.hid ((B6.setCell (p := ⟨pc, 0, none⟩) hpz' (.int .i64 (x + d1))).setCell (p := ⟨pc, 1, none⟩) hpz' (.int .i64 (y + d2)))
            have R7 := Lib.hid (rowL_set2 (k := pc) R6.out (fun r hr => by have := (A4.out r hr).1; omega) (.int .i64 (x + d1)) (.int .i64 (y + d2)))
            have C7 := Lib.hid (crn_set2 (k := pc) C6.out hccp (.int .i64 (x + d1)) (.int .i64 (y + d2)))
            have q0 := P6.c0
            have q1 := P6.c1
            have qf := P6.f
            have qz := P6.z
            clear P6 R6 C6 B6 P5 R5 C5 B5 hc1 hf1 k1 c0 c1 c2 c3 c4 c5 cz yWc0_0 yWc0_1 zWc0
            go_wp2_with fail
            go_roundg (st - (j + 1))
            case measure => have := HGJ.out; omega
            case rel => exact ⟨j + 1, v', pc, rfl, by omega, rfl, rfl, B7.out, R7, Lib.hid (by rw [HSC.out]; exact P7.out), C7, A4, hpz'⟩
          · clear hne
            go_wp2_with (at_builtin; go_loud (refine wpList_append_own _ rfl (.tmp 24) (.tmp 26) 26 rfl w2.heap.size 34 i0 (.agg #[.int .i64 0, .int .i64 0]) 2 16 Try.underlying26 HI.out.1 HI.out.2.1 HI.out.2.2.1 HI.out.2.2.2 rfl (by decide) _ m.length (flat m) rfl (rowL_alloc hr.out _) ⟨wr.heap.size, 0, none⟩ 1 1 [.int .i64 x, .int .i64 y] rfl rfl (two_cells (by go_simp) (by go_simp)) (two_one _ _) (by unfold maxLen; omega) (by omega) (by simp; omega) ?_))
            intro v' w4 hown hgr _
            have RB := rowL_push (Below.alloc hB hzB _) (rowL_alloc hr.out _) hown hgr
            have R4 := Lib.hid (show RowL w4 w2.heap.size v' (m0 ++ firsts f (j + 1)) from by rw [HMM.out]; exact RB.1)
            have B4 := RB.2
            have P4 := bo2_block (bo2_below hp.out (Below.alloc (Below.refl _ _) (Nat.le_refl _) (.cells #[.int .i64 x, .int .i64 y] 34))) (hgr.block pb (by have := hp.out.z; simp; omega) (fun e => by have := (ha.out pb e.symm).1; omega)) hgr.size
            have C4 := Lib.hid (crn_block (crn_below hc.out (Below.alloc (Below.refl _ _) (Nat.le_refl _) (.cells #[.int .i64 x, .int .i64 y] 34))) (hgr.block cb (by have := crn_z hc.out; simp; omega) (fun e => (ha.out cb e.symm).2 rfl)))
            have A4 := Lib.hid (apt_new R4.out C4.out (Nat.le_refl _))
            have q0 := P4.c0
            have q1 := P4.c1
            have qz := P4.z
            have hz4 := B4.size
            clear RB hown hgr P4 hB hr hp hc ha hzB c0 c1 c2 c3 c4 c5 cz u0 u1 uz
            obtain ⟨c0, c1, c2, c3, c4, c5⟩ := crn_cells C4.out
            have cz := crn_z C4.out
            go_wp2_with fail
            obtain ⟨Wc, hWc⟩ : ∃ Wc, Wc = (w4.alloc (.cells #[.int .i64 x, .int .i64 y] 34)) := ⟨_, rfl⟩
            rw [← hWc]
            have yWc0_0 : Wc.cell? ⟨w4.heap.size, 0, none⟩ = some (.int .i64 x) := by rw [hWc]; go_simp
            have yWc0_1 : Wc.cell? ⟨w4.heap.size, 1, none⟩ = some (.int .i64 y) := by rw [hWc]; go_simp
            have fWc0 : ∀ o, Wc.frozen? ⟨w4.heap.size, o, none⟩ = false := by intro o; rw [hWc]; (repeat rw [frozen?_alloc_cells]); simp [World.frozen?]
            have zWc0 : w4.heap.size < Wc.heap.size := by rw [hWc]; simp <;> omega
            have BWc : Below w4.heap.size w4 Wc := by rw [hWc]; exact (Below.alloc (Below.refl _ _) (by simp <;> omega) _)
            have eWc : Hid (Wc.heap.size = w4.heap.size + 1) := Lib.hid (by rw [hWc]; simp)
            clear hWc
            have R5 := Lib.hid (rowL_below R4.out BWc (Nat.le_refl _))
            have C5 := Lib.hid (crn_below C4.out BWc)
            have B5 := B4.trans (BWc.mono hz4)
            clear c0 c1 c2 c3 c4 c5 q0 q1 qz cz
            obtain ⟨c0, c1, c2, c3, c4, c5⟩ := crn_cells C5.out
            have cz := crn_z C5.out
            have P5 := Lib.hid (show Bo2 Wc w4.heap.size x y from ⟨zWc0, yWc0_0, yWc0_1, fWc0⟩)
            have zc4 := crn_z C4.out
            clear R4 C4 B4 BWc fWc0 eWc
            obtain ⟨pc, hpc⟩ : ∃ pc, pc = w4.heap.size := ⟨_, rfl⟩
            rw [← hpc] at P5 A4 yWc0_0 yWc0_1 zWc0 ⊢
            have hccp : cb ≠ pc := by omega
            have hpz' : w2.heap.size ≤ pc := by omega
            clear hpc hz4
            refine wp_region_BT 4 (fun W => Below (Wc).heap.size (Wc) W) (by kernel_rfl) (by kernel_rfl) (by repeat (first | exact Below.refl _ _ | apply Below.drew)) ?_
            simp only [List.take_succ_cons, List.take_zero, List.drop_succ_cons, List.drop_zero]
            first | refine wpH_skip (by rfl) ?_ | (refine wpH_text (v := ?_) (by rfl) (fun W k1 => ?_) ?_; rotate_left; (obtain ⟨hc1, hf1⟩ := bcell k1;  go_simp; refine comes_v ?_; exact k1))
            (try simp only [Act.put, List.setIfInBounds_toArray, List.set_cons_zero, List.set_cons_succ])
            first | refine wpH_skip (by rfl) ?_ | (refine wpH_text (v := ?_) (by rfl) (fun W k1 => ?_) ?_; rotate_left; (obtain ⟨hc1, hf1⟩ := bcell k1;  go_simp; refine comes_v ?_; exact k1))
            (try simp only [Act.put, List.setIfInBounds_toArray, List.set_cons_zero, List.set_cons_succ])
            first | refine wpH_skip (by rfl) ?_ | (refine wpH_text (v := .agg #[.int .i64 d1, .int .i64 d2]) (by rfl) (fun W k1 => ?_) ?_; (obtain ⟨hc1, hf1⟩ := bcell k1;  go_simp; exact comes_c ( KS.out _) (fun wn hbn => k1.trans (hbn.mono k1.size))))
            (try simp only [Act.put, List.setIfInBounds_toArray, List.set_cons_zero, List.set_cons_succ])
            first | refine wpH_skip (by rfl) ?_ | (refine wpH_text (v := .agg #[.int .i64 (x + d1), .int .i64 (y + d2)]) (by rfl) (fun W k1 => ?_) ?_; (obtain ⟨hc1, hf1⟩ := bcell k1;  go_simp; exact comes_c ( KP.out _) (fun wn hbn => k1.trans (hbn.mono k1.size))))
            (try simp only [Act.put, List.setIfInBounds_toArray, List.set_cons_zero, List.set_cons_succ])
            refine wpH_nil ?_
            intro W k1; obtain ⟨hc1, hf1⟩ := bcell k1
            have R6 := Lib.hid (rowL_below R5.out k1 (Nat.le_refl _))
            have C6 := Lib.hid (crn_below C5.out k1)
            have P6 := bo2_below P5.out k1
            have B6 := B5.trans (k1.mono B5.size)
            have P7 := Lib.hid (bo2_set P6 (x + d1) (y + d2))
            have B7 := Lib.hid ((B6.setCell (p := ⟨pc, 0, none⟩) hpz' (.int .i64 (x + d1))).setCell (p := ⟨pc, 1, none⟩) hpz' (.int .i64 (y + d2)))
            have R7 := Lib.hid (rowL_set2 (k := pc) R6.out (fun r hr => by have := (A4.out r hr).1; omega) (.int .i64 (x + d1)) (.int .i64 (y + d2)))
            have C7 := Lib.hid (crn_set2 (k := pc) C6.out hccp (.int .i64 (x + d1)) (.int .i64 (y + d2)))
            have q0 := P6.c0
            have q1 := P6.c1
            have qf := P6.f
            have qz := P6.z
            clear P6 R6 C6 B6 P5 R5 C5 B5 hc1 hf1 k1 c0 c1 c2 c3 c4 c5 cz yWc0_0 yWc0_1 zWc0
            go_wp2_with fail
            go_roundg (st - (j + 1))
            case measure => have := HGJ.out; omega
            case rel => exact ⟨j + 1, v', pc, rfl, by omega, rfl, rfl, B7.out, R7, Lib.hid (by rw [HSC.out]; exact P7.out), C7, A4, hpz'⟩
        · obtain rfl : j = st := by omega
          have hend := LE.out
          rw [hxy] at hend
          obtain ⟨rfl, rfl⟩ : x = b1 ∧ y = b2 := by injection hend with e1 e2; exact ⟨e1, e2⟩
          have hr2 := Lib.hid (show RowL wr w2.heap.size v (arR t (i + 1)) from by rw [HM1.out, HS1.out]; exact hr.out)
          clear hr hp hc ha hend hxy
          go_wp2_with fail
          go_roundg (n - (i + 1))
          case measure => have := HGK.out; omega
          case rel => exact ⟨i + 1, v, rfl, by omega, rfl, by go_num, hB, hr2⟩
    · obtain rfl : i = n := by omega
      have hP := Lib.hid (HN.out _ _ _ BW2.out (by rw [HE.out]; exact hr.out) hB)
      clear hr hB
      go_wp2_with fail
      exact hP.out
end Go.Proofs.Ytjkfdcjfoliboaa
/- lists of points as cells that are appended: plain parts -/
namespace Go.Proofs.Ytjkfdcjfoliboaa
open Go.ChangeShapes Go.WideShapes Go.ChangeAt Go.RowKit Go.Joins
set_option linter.unusedVariables false
set_option linter.unusedSimpArgs false
set_option maxRecDepth 4000
theorem wpOp_left {P : Program} {ops : Array Oper} {i : Nat} {o : Oper} {a : Act} {K : Act → World → Prop} {Q : Exit → Act → World → Prop} {w : World} (hi : ops[i]? = some o) (hw : Region.wanted o (yielded ops a.tmps) = true)
    (h : o.wp P a w K Q) : wpOp P ops Q i K a w := by
  unfold wpOp
  simp only [hi, hw, if_true]
  exact Or.inl h
theorem wpOp_val {P : Program} {ops : Array Oper} {i : Nat} {o : Oper} {a : Act} {K : Act → World → Prop} {Q : Exit → Act → World → Prop} {w w' : World} {v : Value} (hi : ops[i]? = some o) (hw : Region.wanted o (yielded ops a.tmps) = true)
    (h1 : (execOp a.eval o).run P w = .ok (.value v) w') (h2 : K (a.put o.dst v) w') : wpOp P ops Q i K a w :=
  wpOp_left hi hw (by unfold Oper.wp; rw [h1]; exact h2)
theorem flat_len (l : List (Int × Int)) : (flat l).length = l.length * 2 := by
  induction l with
  | nil => rfl
  | cons p l ih =>
    show ([Value.int .i64 p.1, .int .i64 p.2] ++ flat l).length = _
    rw [List.length_append, ih, List.length_cons]
    simp
    omega
theorem flat_app (l m : List (Int × Int)) : flat (l ++ m) = flat l ++ flat m := by unfold flat; rw [List.flatMap_append]
theorem flat_one (l : List (Int × Int)) : ∀ u ∈ flat l, u.oneCell' = true := by
  intro u hu
  unfold flat at hu
  rw [List.mem_flatMap] at hu
  obtain ⟨p, _, hp⟩ := hu
  simp at hp
  rcases hp with rfl | rfl <;> rfl
theorem flat_cells {w : World} {b off : Nat} {l : List (Int × Int)} (h : ∀ i, i < l.length → w.cell? ⟨b, off + i * 2, none⟩ = some (.int .i64 (pt l i).1) ∧ w.cell? ⟨b, off + i * 2 + 1, none⟩ = some (.int .i64 (pt l i).2)) :
    ∀ j u, (flat l)[j]? = some u → w.cell? ((⟨b, off, none⟩ : Addr).add j) = some u := by
  intro j u hj
  rw [add_plain]
  have hlt : j < (flat l).length := (List.getElem?_eq_some_iff.1 hj).1
  rw [flat_len] at hlt
  have hi : j / 2 < l.length := by omega
  obtain ⟨f1, f2⟩ := flat_get l (j / 2) hi
  obtain ⟨h1, h2⟩ := h (j / 2) hi
  rcases Nat.mod_two_eq_zero_or_one j with h0 | h0
  · have e : j = j / 2 * 2 := by omega
    rw [e] at hj ⊢
    rw [f1] at hj
    injection hj with hj
    rw [← hj]; exact h1
  · have e : j = j / 2 * 2 + 1 := by omega
    rw [e] at hj ⊢
    rw [f2] at hj
    injection hj with hj
    rw [← hj, ← Nat.add_assoc]; exact h2
end Go.Proofs.Ytjkfdcjfoliboaa
/- lists of points as cells that are appended; a list told from a corner on -/
namespace Go.Proofs.Ytjkfdcjfoliboaa
open Go.ChangeShapes Go.WideShapes Go.ChangeAt Go.RowKit Go.Joins
set_option linter.unusedVariables false
set_option linter.unusedSimpArgs false
set_option maxRecDepth 4000
/-- the list told from corner k on -/
def rotF (l : List (Int × Int)) (k i : Nat) : Int × Int := vx l ((k + i) % l.length)
theorem rot_list (l : List (Int × Int)) (k : Nat) (hk : k < l.length) : l.drop k ++ l.take k = firsts (rotF l k) l.length := by
  apply List.ext_getElem?
  intro i
  by_cases hi : i < l.length
  · rw [firsts_get _ _ _ hi]
    unfold rotF
    by_cases h1 : i < l.length - k
    · rw [List.getElem?_append_left (by simpa using h1), List.getElem?_drop, Nat.mod_eq_of_lt (by omega)]
      exact vx_get (by omega)
    · rw [List.getElem?_append_right (by simpa using (by omega : l.length - k ≤ i)), List.length_drop, List.getElem?_take, if_pos (by omega)]
      rw [show (k + i) % l.length = i - (l.length - k) by
        rw [show k + i = (i - (l.length - k)) + l.length by omega, Nat.add_mod_right, Nat.mod_eq_of_lt (by omega)]]
      exact vx_get (by omega)
  · rw [List.getElem?_eq_none (by simp; omega), List.getElem?_eq_none (by rw [firsts_len]; omega)]
theorem pt_drop (l : List (Int × Int)) (k i : Nat) (h : k + i < l.length) : pt (l.drop k) i = vx l (k + i) := by
  unfold pt
  rw [List.getElem?_drop, vx_get h]
  rfl
theorem pt_take (l : List (Int × Int)) (k i : Nat) (h : i < k) (hk : k ≤ l.length) : pt (l.take k) i = vx l i := by
  unfold pt
  rw [List.getElem?_take, if_pos h, vx_get (by omega)]
  rfl
/-- what lies behind corner k, as cells -/
theorem drop_cells {w : World} {b off k : Nat} {l : List (Int × Int)} (hk : k ≤ l.length) (h : ∀ i, i < l.length → w.cell? ⟨b, off + i * 2, none⟩ = some (.int .i64 (vx l i).1) ∧ w.cell? ⟨b, off + i * 2 + 1, none⟩ = some (.int .i64 (vx l i).2)) :
    ∀ j u, (flat (l.drop k))[j]? = some u → w.cell? ((⟨b, off + k * 2, none⟩ : Addr).add j) = some u :=
  flat_cells fun i hi => by
    rw [List.length_drop] at hi
    rw [pt_drop l k i (by omega)]
    have := h (k + i) (by omega)
    rw [show off + k * 2 + i * 2 = off + (k + i) * 2 by omega]
    exact this
theorem take_cells {w : World} {b off k : Nat} {l : List (Int × Int)} (hk : k ≤ l.length) (h : ∀ i, i < l.length → w.cell? ⟨b, off + i * 2, none⟩ = some (.int .i64 (vx l i).1) ∧ w.cell? ⟨b, off + i * 2 + 1, none⟩ = some (.int .i64 (vx l i).2)) :
    ∀ j u, (flat (l.take k))[j]? = some u → w.cell? ((⟨b, off, none⟩ : Addr).add j) = some u :=
  flat_cells fun i hi => by
    rw [List.length_take] at hi
    rw [pt_take l k i (by omega) hk]
    exact h i (by omega)
/-- a row to which the list from corner k on is appended, and then the corners ahead -/
theorem row_rot {w : World} {base k : Nat} {v : Value} {l : List (Int × Int)} (hk : k < l.length) (h : w.ownsRow base 34 2 v (0 + (l.length - k) + k) (([] ++ flat (l.drop k)) ++ flat (l.take k))) : Row w base v (rotF l k) l.length := by
  unfold Row
  rw [← rot_list l k hk, flat_app]
  rw [List.nil_append, show 0 + (l.length - k) + k = l.length by omega] at h
  exact h
end Go.Proofs.Ytjkfdcjfoliboaa
/- contracts: the model's sums around a polygon -/
namespace Go.Proofs.Ytjkfdcjfoliboaa
open Go.ChangeShapes Go.WideShapes Go.ChangeAt Go.RowKit Go.Joins
set_option linter.unusedVariables false
set_option linter.unusedSimpArgs false
set_option maxRecDepth 4000
set_option maxHeartbeats 2000000 in
theorem pgAreaW_any (A : Option Addr) (c : Nat) (l : List (Int × Int)) (w : World) (h3 : 3 ≤ l.length) (hn : l.length ≤ 60) (hp : ∀ i, i < l.length → isPg (vx l i) = true) (hR : Rd w w.heap.size A l) :
    Calls Try.prog 65 #[.slice A l.length c] w fun e w' => e = .returned (.int .i64 (areaN l)) ∧ Below w.heap.size w w' := by
  obtain ⟨b, off, rfl, hb, HC⟩ := pts_of (by omega) hR
  have ZP := Lib.hid (fun i => pgs_sz hp i (by omega))
  have HA := Lib.hid (fan_all l h3)
  have HB := Lib.hid (fun i h => fan_bdW hp (by omega) i h)
  have H2 := fan_two l
  have HS := Lib.hid (fun i h => fan_step l i h)
  clear hp hR
  generalize hN : l.length = n at *
  have HN := Lib.hid hN
  clear hN
  go_enter Try.func65, Try.ntmps65
  go_wp2_with fail
  go_loopg [3, 4] (n - 2) (fun g s i wr => ∃ k : Nat, 2 ≤ k ∧ k ≤ n ∧ g = n - k ∧ i = .int .i64 k ∧ s = .int .i64 (fanTo l k) ∧ Below w.heap.size w wr)
  case atStart => exact ⟨2, Nat.le_refl _, by omega, by omega, rfl, by rw [H2], Below.refl _ _⟩
  case round =>
    clear H2
    obtain ⟨k, hk2, hk, hg, rfl, rfl, hB⟩ := hrel
    rename World => wo
    have HGK := Lib.hid hg
    clear hg
    by_cases hlt : k < n
    · have T := Lib.hid (fun W => (show Calls Try.prog 62 #[.agg #[.int .i64 (vx l 0).1, .int .i64 (vx l 0).2], .agg #[.int .i64 (vx l (k - 1)).1, .int .i64 (vx l (k - 1)).2], .agg #[.int .i64 (vx l k).1, .int .i64 (vx l k).2]] W fun e w' => e = .returned (.int .i64 (twP (vx l 0) (vx l (k - 1)) (vx l k))) ∧ Below W.heap.size W w' from
        pgTurn_any _ _ _ _ _ _ W (ZP.out _) (ZP.out _) (ZP.out _)))
      have e0 := HS.out k hk2
      obtain ⟨b1, b2⟩ := HB.out (k + 1) (by omega)
      rw [e0] at b1 b2
      have E0 := Lib.hid e0
      clear e0
      generalize twP (vx l 0) (vx l (k - 1)) (vx l k) = t at *
      generalize hs : fanTo l k = s at *
      have HSS := Lib.hid hs
      clear hs
      have e1 : IntKind.i64.wrap ((k : Int) - 1) = (k : Int) - 1 := IntWalk.i64_in _ (by omega)
      have e2 : ((k : Int) - 1).toNat = k - 1 := by omega
      have e3 : (0 : Int) ≤ (k : Int) - 1 := by omega
      have e5 : (k : Int) - 1 < (n : Int) := by omega
      have e4 : IntKind.i64.wrap (s + t) = s + t := IntWalk.i64_in _ (by omega)
      go_wp2_with fail
      have e6 : 0 < n := by omega
      have e7 : (1 : Int) ≤ (k : Int) := by omega
      refine wp_region_B (fun W => Below w.heap.size w W) (by kernel_rfl) hB.drew ?_
      first | refine wpB_skip 0 rfl (by kernel_rfl) (by kernel_rfl) (by kernel_rfl) (by rfl) ?_ | (refine wpB_text 0 (v := ?_) rfl (by kernel_rfl) (by kernel_rfl) (by kernel_rfl) (by rfl) (fun W hW => ?_) ?_; rotate_left; (have k1 := hW; have c0 := HC.out W k1 0 (by omega); have c1 := HC.out W k1 (k - 1) (by omega); have c2 := HC.out W k1 k hlt; simp only [Nat.zero_mul, Nat.add_zero] at c0; go_simp; refine comes_v ?_; exact k1))
      (try simp only [Act.put, List.setIfInBounds_toArray, List.set_cons_zero, List.set_cons_succ])
      first | refine wpB_skip 1 rfl (by kernel_rfl) (by kernel_rfl) (by kernel_rfl) (by rfl) ?_ | (refine wpB_text 1 (v := ?_) rfl (by kernel_rfl) (by kernel_rfl) (by kernel_rfl) (by rfl) (fun W hW => ?_) ?_; rotate_left; (have k1 := hW; have c0 := HC.out W k1 0 (by omega); have c1 := HC.out W k1 (k - 1) (by omega); have c2 := HC.out W k1 k hlt; simp only [Nat.zero_mul, Nat.add_zero] at c0; go_simp; refine comes_v ?_; exact k1))
      (try simp only [Act.put, List.setIfInBounds_toArray, List.set_cons_zero, List.set_cons_succ])
      first | refine wpB_skip 2 rfl (by kernel_rfl) (by kernel_rfl) (by kernel_rfl) (by rfl) ?_ | (refine wpB_text 2 (v := ?_) rfl (by kernel_rfl) (by kernel_rfl) (by kernel_rfl) (by rfl) (fun W hW => ?_) ?_; rotate_left; (have k1 := hW; have c0 := HC.out W k1 0 (by omega); have c1 := HC.out W k1 (k - 1) (by omega); have c2 := HC.out W k1 k hlt; simp only [Nat.zero_mul, Nat.add_zero] at c0; go_simp; refine comes_v ?_; exact k1))
      (try simp only [Act.put, List.setIfInBounds_toArray, List.set_cons_zero, List.set_cons_succ])
      first | refine wpB_skip 3 rfl (by kernel_rfl) (by kernel_rfl) (by kernel_rfl) (by rfl) ?_ | (refine wpB_text 3 (v := ?_) rfl (by kernel_rfl) (by kernel_rfl) (by kernel_rfl) (by rfl) (fun W hW => ?_) ?_; rotate_left; (have k1 := hW; have c0 := HC.out W k1 0 (by omega); have c1 := HC.out W k1 (k - 1) (by omega); have c2 := HC.out W k1 k hlt; simp only [Nat.zero_mul, Nat.add_zero] at c0; go_simp; refine comes_v ?_; exact k1))
      (try simp only [Act.put, List.setIfInBounds_toArray, List.set_cons_zero, List.set_cons_succ])
      first | refine wpB_skip 4 rfl (by kernel_rfl) (by kernel_rfl) (by kernel_rfl) (by rfl) ?_ | (refine wpB_text 4 (v := ?_) rfl (by kernel_rfl) (by kernel_rfl) (by kernel_rfl) (by rfl) (fun W hW => ?_) ?_; rotate_left; (have k1 := hW; have c0 := HC.out W k1 0 (by omega); have c1 := HC.out W k1 (k - 1) (by omega); have c2 := HC.out W k1 k hlt; simp only [Nat.zero_mul, Nat.add_zero] at c0; go_simp; refine comes_v ?_; exact k1))
      (try simp only [Act.put, List.setIfInBounds_toArray, List.set_cons_zero, List.set_cons_succ])
      first | refine wpB_skip 5 rfl (by kernel_rfl) (by kernel_rfl) (by kernel_rfl) (by rfl) ?_ | (refine wpB_text 5 (v := ?_) rfl (by kernel_rfl) (by kernel_rfl) (by kernel_rfl) (by rfl) (fun W hW => ?_) ?_; rotate_left; (have k1 := hW; have c0 := HC.out W k1 0 (by omega); have c1 := HC.out W k1 (k - 1) (by omega); have c2 := HC.out W k1 k hlt; simp only [Nat.zero_mul, Nat.add_zero] at c0; go_simp; refine comes_v ?_; exact k1))
      (try simp only [Act.put, List.setIfInBounds_toArray, List.set_cons_zero, List.set_cons_succ])
      first | refine wpB_skip 6 rfl (by kernel_rfl) (by kernel_rfl) (by kernel_rfl) (by rfl) ?_ | (refine wpB_text 6 (v := ?_) rfl (by kernel_rfl) (by kernel_rfl) (by kernel_rfl) (by rfl) (fun W hW => ?_) ?_; rotate_left; (have k1 := hW; have c0 := HC.out W k1 0 (by omega); have c1 := HC.out W k1 (k - 1) (by omega); have c2 := HC.out W k1 k hlt; simp only [Nat.zero_mul, Nat.add_zero] at c0; go_simp; refine comes_v ?_; exact k1))
      (try simp only [Act.put, List.setIfInBounds_toArray, List.set_cons_zero, List.set_cons_succ])
      first | refine wpB_skip 7 rfl (by kernel_rfl) (by kernel_rfl) (by kernel_rfl) (by rfl) ?_ | (refine wpB_text 7 (v := ?_) rfl (by kernel_rfl) (by kernel_rfl) (by kernel_rfl) (by rfl) (fun W hW => ?_) ?_; rotate_left; (have k1 := hW; have c0 := HC.out W k1 0 (by omega); have c1 := HC.out W k1 (k - 1) (by omega); have c2 := HC.out W k1 k hlt; simp only [Nat.zero_mul, Nat.add_zero] at c0; go_simp; refine comes_v ?_; exact k1))
      (try simp only [Act.put, List.setIfInBounds_toArray, List.set_cons_zero, List.set_cons_succ])
      first | refine wpB_skip 8 rfl (by kernel_rfl) (by kernel_rfl) (by kernel_rfl) (by rfl) ?_ | (refine wpB_text 8 (v := ?_) rfl (by kernel_rfl) (by kernel_rfl) (by kernel_rfl) (by rfl) (fun W hW => ?_) ?_; rotate_left; (have k1 := hW; have c0 := HC.out W k1 0 (by omega); have c1 := HC.out W k1 (k - 1) (by omega); have c2 := HC.out W k1 k hlt; simp only [Nat.zero_mul, Nat.add_zero] at c0; go_simp; refine comes_v ?_; exact k1))
      (try simp only [Act.put, List.setIfInBounds_toArray, List.set_cons_zero, List.set_cons_succ])
      first | refine wpB_skip 9 rfl (by kernel_rfl) (by kernel_rfl) (by kernel_rfl) (by rfl) ?_ | (refine wpB_text 9 (v := ?_) rfl (by kernel_rfl) (by kernel_rfl) (by kernel_rfl) (by rfl) (fun W hW => ?_) ?_; rotate_left; (have k1 := hW; have c0 := HC.out W k1 0 (by omega); have c1 := HC.out W k1 (k - 1) (by omega); have c2 := HC.out W k1 k hlt; simp only [Nat.zero_mul, Nat.add_zero] at c0; go_simp; refine comes_v ?_; exact k1))
      (try simp only [Act.put, List.setIfInBounds_toArray, List.set_cons_zero, List.set_cons_succ])
      first | refine wpB_skip 10 rfl (by kernel_rfl) (by kernel_rfl) (by kernel_rfl) (by rfl) ?_ | (refine wpB_text 10 (v := ?_) rfl (by kernel_rfl) (by kernel_rfl) (by kernel_rfl) (by rfl) (fun W hW => ?_) ?_; rotate_left; (have k1 := hW; have c0 := HC.out W k1 0 (by omega); have c1 := HC.out W k1 (k - 1) (by omega); have c2 := HC.out W k1 k hlt; simp only [Nat.zero_mul, Nat.add_zero] at c0; go_simp; refine comes_v ?_; exact k1))
      (try simp only [Act.put, List.setIfInBounds_toArray, List.set_cons_zero, List.set_cons_succ])
      first | refine wpB_skip 11 rfl (by kernel_rfl) (by kernel_rfl) (by kernel_rfl) (by rfl) ?_ | (refine wpB_text 11 (v := ?_) rfl (by kernel_rfl) (by kernel_rfl) (by kernel_rfl) (by rfl) (fun W hW => ?_) ?_; rotate_left; (have k1 := hW; have c0 := HC.out W k1 0 (by omega); have c1 := HC.out W k1 (k - 1) (by omega); have c2 := HC.out W k1 k hlt; simp only [Nat.zero_mul, Nat.add_zero] at c0; go_simp; refine comes_v ?_; exact k1))
      (try simp only [Act.put, List.setIfInBounds_toArray, List.set_cons_zero, List.set_cons_succ])
      first | refine wpB_skip 12 rfl (by kernel_rfl) (by kernel_rfl) (by kernel_rfl) (by rfl) ?_ | (refine wpB_text 12 (v := ?_) rfl (by kernel_rfl) (by kernel_rfl) (by kernel_rfl) (by rfl) (fun W hW => ?_) ?_; rotate_left; (have k1 := hW; have c0 := HC.out W k1 0 (by omega); have c1 := HC.out W k1 (k - 1) (by omega); have c2 := HC.out W k1 k hlt; simp only [Nat.zero_mul, Nat.add_zero] at c0; go_simp; refine comes_v ?_; exact k1))
      (try simp only [Act.put, List.setIfInBounds_toArray, List.set_cons_zero, List.set_cons_succ])
      first | refine wpB_skip 13 rfl (by kernel_rfl) (by kernel_rfl) (by kernel_rfl) (by rfl) ?_ | (refine wpB_text 13 (v := .int .i64 t) rfl (by kernel_rfl) (by kernel_rfl) (by kernel_rfl) (by rfl) (fun W hW => ?_) ?_; (have k1 := hW; have c0 := HC.out W k1 0 (by omega); have c1 := HC.out W k1 (k - 1) (by omega); have c2 := HC.out W k1 k hlt; simp only [Nat.zero_mul, Nat.add_zero] at c0; go_simp; exact comes_c ( T.out _) (fun wn hbn => bt_keep k1 hbn)))
      (try simp only [Act.put, List.setIfInBounds_toArray, List.set_cons_zero, List.set_cons_succ])
      first | refine wpB_skip 14 rfl (by kernel_rfl) (by kernel_rfl) (by kernel_rfl) (by rfl) ?_ | (refine wpB_text 14 (v := ?_) rfl (by kernel_rfl) (by kernel_rfl) (by kernel_rfl) (by rfl) (fun W hW => ?_) ?_; rotate_left; (have k1 := hW; have c0 := HC.out W k1 0 (by omega); have c1 := HC.out W k1 (k - 1) (by omega); have c2 := HC.out W k1 k hlt; simp only [Nat.zero_mul, Nat.add_zero] at c0; go_simp; refine comes_v ?_; exact k1))
      (try simp only [Act.put, List.setIfInBounds_toArray, List.set_cons_zero, List.set_cons_succ])
      first | refine wpB_skip 15 rfl (by kernel_rfl) (by kernel_rfl) (by kernel_rfl) (by rfl) ?_ | (refine wpB_text 15 (v := ?_) rfl (by kernel_rfl) (by kernel_rfl) (by kernel_rfl) (by rfl) (fun W hW => ?_) ?_; rotate_left; (have k1 := hW; have c0 := HC.out W k1 0 (by omega); have c1 := HC.out W k1 (k - 1) (by omega); have c2 := HC.out W k1 k hlt; simp only [Nat.zero_mul, Nat.add_zero] at c0; go_simp; refine comes_v ?_; exact k1))
      (try simp only [Act.put, List.setIfInBounds_toArray, List.set_cons_zero, List.set_cons_succ])
      refine wpB_done (by kernel_rfl) ?_ _
      intro W hW; have k1 := hW
      clear e1 e2 e3 e4 e5 e6 e7
      go_wp2_with fail
      go_roundg (n - (k + 1))
      case measure => have := HGK.out; omega
      case rel => exact ⟨k + 1, by omega, by omega, rfl, by go_num, by rw [E0.out], k1⟩
    · have hkn : n = k := by omega
      subst hkn
      rw [HA.out]
      go_wp2_with fail
      go_ret
      exact ⟨rfl, hB⟩
theorem pgArea_any (A : Option Addr) (c : Nat) (l : List (Int × Int)) (w : World) (h3 : 3 ≤ l.length) (hn : l.length ≤ 10) (hp : ∀ i, i < l.length → isPg (vx l i) = true) (hR : Rd w w.heap.size A l) :
    Calls Try.prog 65 #[.slice A l.length c] w fun e w' => e = .returned (.int .i64 (areaN l)) ∧ Below w.heap.size w w' := pgAreaW_any A c l w h3 (by omega) hp hR
end Go.Proofs.Ytjkfdcjfoliboaa
/- contract: a polygon told from its first corner to the left, the model -/
namespace Go.Proofs.Ytjkfdcjfoliboaa
open Go.ChangeShapes Go.WideShapes Go.ChangeAt Go.RowKit Go.Joins
set_option linter.unusedVariables false
set_option linter.unusedSimpArgs false
set_option maxRecDepth 4000
theorem pgLess_any (a1 a2 b1 b2 : Int) (w : World) :
    Calls Try.prog 76 #[.agg #[.int .i64 a1, .int .i64 a2], .agg #[.int .i64 b1, .int .i64 b2]] w fun e w' => e = .returned (.bool (ltP (a1, a2) (b1, b2))) ∧ Below w.heap.size w w' := by
  by_cases h1 : a1 < b1
  · go_enter Try.func76, Try.ntmps76
    go_wp2_with fail
    go_ret
    exact ⟨ret_bool (by simp [ltP, h1]), (by repeat (first | exact Below.refl _ _ | assumption | apply Below.drew | refine Below.alloc ?_ (by simp <;> omega) _))⟩
  · by_cases h2 : a1 = b1
    · by_cases h3 : a2 < b2
      all_goals
        subst h2
        go_enter Try.func76, Try.ntmps76
        go_wp2_with fail
        go_ret
        exact ⟨ret_bool (by simp [ltP, h3]), (by repeat (first | exact Below.refl _ _ | assumption | apply Below.drew | refine Below.alloc ?_ (by simp <;> omega) _))⟩
    · go_enter Try.func76, Try.ntmps76
      go_wp2_with fail
      go_ret
      exact ⟨ret_bool (by simp [ltP, h1, h2]), (by repeat (first | exact Below.refl _ _ | assumption | apply Below.drew | refine Below.alloc ?_ (by simp <;> omega) _))⟩
theorem retP_up {w w1 w2 : World} {m : List (Int × Int)} {e : Ending} (hb1 : Below w.heap.size w w1) (h : RetP w1 m e w2) : RetP w m e w2 := by
  obtain ⟨A, c, e, h1, h2, h3, h4⟩ := h
  exact ⟨A, c, e, h1, h2, hb1.trans (h3.mono hb1.size), rw_more h4 hb1.size (Nat.le_refl _)⟩
theorem minI_same {f g : Nat → Int × Int} (n : Nat) (h : ∀ i, i < n → f i = g i) : ∀ k, k ≤ n → minI f k = minI g k
  | 0, _ => rfl
  | k + 1, hk => by
    have ih := minI_same n h k (by omega)
    show (if ltP (f k) (f (minI f k)) = true then k else minI f k) = (if ltP (g k) (g (minI g k)) = true then k else minI g k)
    have hm : minI g k < n := by
      rcases Nat.eq_zero_or_pos k with h0 | h0
      · subst h0; exact hk
      · have := minI_lt g k h0; omega
    rw [ih, h k (by omega), h _ hm]
theorem vx_firsts (f : Nat → Int × Int) (n i : Nat) (h : i < n) : vx (firsts f n) i = f i := by
  have e := vx_get (l := firsts f n) (i := i) (by rw [firsts_len]; exact h)
  rw [firsts_get f n i h] at e
  injection e with e
  exact e.symm
set_option maxHeartbeats 4000000 in
theorem pgFirst_any (A : Option Addr) (c : Nat) (l : List (Int × Int)) (w : World) (hgd : Good l) (hcap : l.length ≤ c) (hc2 : c ≤ 9223372036854775807) (hR : Rd w w.heap.size A l) :
    Calls Try.prog 52 #[.slice A l.length c] w (RetP w (firsts (tellF l) l.length)) := by
  have KA := Lib.hid (pgArea_any A c l w hgd.few.1 hgd.few.2 hgd.pegs hR)
  have h10 := hgd.few
  by_cases ha : areaN l < 0
  · have KB := Lib.hid (fun W (hb : Below w.heap.size w W) => pgBack_any A c l W (by omega) h10.2 (rd_more (rd_below hR hb (Nat.le_refl _)) hb.size))
    have HT0 : ∀ i, i < l.length → rotF (firsts (backF l) l.length) (minI (vx (firsts (backF l) l.length)) l.length) i = tellF l i := fun i hi => by
      have hn : 0 < l.length := good_pos hgd
      unfold rotF
      rw [firsts_len, vx_firsts _ _ _ (Nat.mod_lt _ hn), minI_same l.length (fun j hj => vx_firsts (backF l) l.length j hj) l.length (Nat.le_refl _)]
      exact tell_back hgd ha i hi
    have HT := Lib.hid HT0
    have HN2 : Hid ((firsts (backF l) l.length).length = l.length) := Lib.hid (firsts_len _ _)
    clear hgd hR HT0
    generalize firsts (backF l) l.length = l2 at *
    generalize areaN l = ar at *
    generalize hN : l.length = n at *
    have HN := Lib.hid hN
    clear hN
    go_enter Try.func52, Try.ntmps52
    go_wp2_with fail
    refine KA.out.mono ?_; rintro e w1 ⟨rfl, hb1⟩
    go_wp2_with fail
    refine (KB.out w1 hb1).mono ?_; rintro e w2 ⟨A2, c2, rfl, q1, q2, hb12, q3⟩
    have hb2 := hb1.trans (hb12.mono hb1.size)
    have R2 := rd_more (rw_rd q3) (Nat.le_refl _)
    obtain ⟨b, off, rfl, hbb, HC00⟩ := pts_of (by rw [HN2.out]; omega) R2
    rw [HN2.out] at HC00 q1 ⊢
    have HC := Lib.hid (fun W (hW : Below w2.heap.size w2 W) => HC00.out W hW)
    have hz2 := hb2.size
    have hcap : n ≤ c2 := q1
    have hc2 : c2 ≤ 9223372036854775807 := by unfold maxLen at q2; omega
    clear HC00 R2 q1 q2 q3 hb12 KB
    go_wp2_with fail
    go_loopg [3, 13] n (fun g s i wr => ∃ k : Nat, k ≤ n ∧ g = n - k ∧ i = .int .i64 k ∧ s = .int .i64 (minI (vx l2) k : Nat) ∧ Below w2.heap.size w2 wr)
    case atStart => exact ⟨0, Nat.zero_le _, rfl, rfl, rfl, Below.refl _ _⟩
    case round =>
      obtain ⟨k, hk, hg, rfl, rfl, hB⟩ := hrel
      rename World => wo
      have HGK := Lib.hid hg
      clear hg
      by_cases hlt : k < n
      · obtain ⟨y0, y1⟩ := HC.out wo hB k hlt
        have hm : minI (vx l2) k < n := by
          rcases Nat.eq_zero_or_pos k with h0 | h0
          · subst h0; exact hlt
          · have := minI_lt (vx l2) k h0; omega
        have hbz : b < wo.heap.size := by have := hB.size; omega
        have EM : Hid (minI (vx l2) (k + 1) = if ltP (vx l2 k) (vx l2 (minI (vx l2) k)) = true then k else minI (vx l2) k) := Lib.hid rfl
        generalize minI (vx l2) k = m at *
        have KL := Lib.hid (fun W => pgLess_any (vx l2 k).1 (vx l2 k).2 (vx l2 m).1 (vx l2 m).2 W)
        have e1 : (m : Int) < (n : Int) := by omega
        by_cases hb : ltP (vx l2 k) (vx l2 m) = true
        · rw [show ltP ((vx l2 k).1, (vx l2 k).2) ((vx l2 m).1, (vx l2 m).2) = true from hb] at KL
          have E2 : Hid (minI (vx l2) (k + 1) = k) := Lib.hid (by rw [EM.out, if_pos hb])
          clear EM hb
          go_wp2_with fail
          obtain ⟨Wp, hWp⟩ : ∃ Wp, Wp = (wo.alloc (.cells #[.int .i64 ((vx l2 k).1), .int .i64 ((vx l2 k).2)] 34)) := ⟨_, rfl⟩
          rw [← hWp]
          have yWp0_0 : Wp.cell? ⟨wo.heap.size, 0, none⟩ = some (.int .i64 ((vx l2 k).1)) := by rw [hWp]; go_simp
          have yWp0_1 : Wp.cell? ⟨wo.heap.size, 1, none⟩ = some (.int .i64 ((vx l2 k).2)) := by rw [hWp]; go_simp
          have fWp0 : ∀ o, Wp.frozen? ⟨wo.heap.size, o, none⟩ = false := by intro o; rw [hWp]; (repeat rw [frozen?_alloc_cells]); simp [World.frozen?]
          have zWp0 : wo.heap.size < Wp.heap.size := by rw [hWp]; simp <;> omega
          have BWp : Below wo.heap.size wo Wp := by rw [hWp]; exact (Below.alloc (Below.refl _ _) (by simp <;> omega) _)
          have eWp : Hid (Wp.heap.size = wo.heap.size + 1) := Lib.hid (by rw [hWp]; simp)
          clear hWp
          have BP := hB.trans (BWp.mono hB.size)
          obtain ⟨xm0, xm1⟩ := HC.out Wp BP m hm
          have zb : b < Wp.heap.size := Nat.lt_of_lt_of_le hbz BWp.size
          refine wp_region_B (fun W => Below Wp.heap.size Wp W) (by kernel_rfl) (by repeat (first | exact Below.refl _ _ | apply Below.drew)) ?_
          first | refine wpB_skip 0 rfl (by kernel_rfl) (by kernel_rfl) (by kernel_rfl) (by rfl) ?_ | (refine wpB_text 0 (v := ?_) rfl (by kernel_rfl) (by kernel_rfl) (by kernel_rfl) (by rfl) (fun W hW => ?_) ?_; rotate_left; (have k1 := hW; obtain ⟨hc1, hf1⟩ := bcell k1; go_simp; refine comes_v ?_; exact k1))
          (try simp only [Act.put, List.setIfInBounds_toArray, List.set_cons_zero, List.set_cons_succ])
          first | refine wpB_skip 1 rfl (by kernel_rfl) (by kernel_rfl) (by kernel_rfl) (by rfl) ?_ | (refine wpB_text 1 (v := ?_) rfl (by kernel_rfl) (by kernel_rfl) (by kernel_rfl) (by rfl) (fun W hW => ?_) ?_; rotate_left; (have k1 := hW; obtain ⟨hc1, hf1⟩ := bcell k1; go_simp; refine comes_v ?_; exact k1))
          (try simp only [Act.put, List.setIfInBounds_toArray, List.set_cons_zero, List.set_cons_succ])
          first | refine wpB_skip 2 rfl (by kernel_rfl) (by kernel_rfl) (by kernel_rfl) (by rfl) ?_ | (refine wpB_text 2 (v := ?_) rfl (by kernel_rfl) (by kernel_rfl) (by kernel_rfl) (by rfl) (fun W hW => ?_) ?_; rotate_left; (have k1 := hW; obtain ⟨hc1, hf1⟩ := bcell k1; go_simp; refine comes_v ?_; exact k1))
          (try simp only [Act.put, List.setIfInBounds_toArray, List.set_cons_zero, List.set_cons_succ])
          first | refine wpB_skip 3 rfl (by kernel_rfl) (by kernel_rfl) (by kernel_rfl) (by rfl) ?_ | (refine wpB_text 3 (v := ?_) rfl (by kernel_rfl) (by kernel_rfl) (by kernel_rfl) (by rfl) (fun W hW => ?_) ?_; rotate_left; (have k1 := hW; obtain ⟨hc1, hf1⟩ := bcell k1; go_simp; refine comes_v ?_; exact k1))
          (try simp only [Act.put, List.setIfInBounds_toArray, List.set_cons_zero, List.set_cons_succ])
          first | refine wpB_skip 4 rfl (by kernel_rfl) (by kernel_rfl) (by kernel_rfl) (by rfl) ?_ | (refine wpB_text 4 (v := ?_) rfl (by kernel_rfl) (by kernel_rfl) (by kernel_rfl) (by rfl) (fun W hW => ?_) ?_; rotate_left; (have k1 := hW; obtain ⟨hc1, hf1⟩ := bcell k1; go_simp; refine comes_v ?_; exact k1))
          (try simp only [Act.put, List.setIfInBounds_toArray, List.set_cons_zero, List.set_cons_succ])
          first | refine wpB_skip 5 rfl (by kernel_rfl) (by kernel_rfl) (by kernel_rfl) (by rfl) ?_ | (refine wpB_text 5 (v := .bool true) rfl (by kernel_rfl) (by kernel_rfl) (by kernel_rfl) (by rfl) (fun W hW => ?_) ?_; (have k1 := hW; obtain ⟨hc1, hf1⟩ := bcell k1; go_simp; exact comes_c ( KL.out _) (fun wn hbn => bt_keep k1 hbn)))
          (try simp only [Act.put, List.setIfInBounds_toArray, List.set_cons_zero, List.set_cons_succ])
          refine wpB_done (by kernel_rfl) ?_ _
          intro W hW; have k1 := hW
          have B3 := BP.trans (k1.mono BP.size)
          clear xm0 xm1 zWp0 fWp0 yWp0_0 yWp0_1 eWp BWp BP y0 y1
          go_wp2_with fail
          go_roundg (n - (k + 1))
          case measure => have := HGK.out; omega
          case rel => exact ⟨k + 1, by omega, rfl, by go_num, by rw [E2.out], B3⟩
        · rw [show ltP ((vx l2 k).1, (vx l2 k).2) ((vx l2 m).1, (vx l2 m).2) = false from (by simpa using hb)] at KL
          have E2 : Hid (minI (vx l2) (k + 1) = m) := Lib.hid (by rw [EM.out, if_neg hb])
          clear EM hb
          go_wp2_with fail
          obtain ⟨Wp, hWp⟩ : ∃ Wp, Wp = (wo.alloc (.cells #[.int .i64 ((vx l2 k).1), .int .i64 ((vx l2 k).2)] 34)) := ⟨_, rfl⟩
          rw [← hWp]
          have yWp0_0 : Wp.cell? ⟨wo.heap.size, 0, none⟩ = some (.int .i64 ((vx l2 k).1)) := by rw [hWp]; go_simp
          have yWp0_1 : Wp.cell? ⟨wo.heap.size, 1, none⟩ = some (.int .i64 ((vx l2 k).2)) := by rw [hWp]; go_simp
          have fWp0 : ∀ o, Wp.frozen? ⟨wo.heap.size, o, none⟩ = false := by intro o; rw [hWp]; (repeat rw [frozen?_alloc_cells]); simp [World.frozen?]
          have zWp0 : wo.heap.size < Wp.heap.size := by rw [hWp]; simp <;> omega
          have BWp : Below wo.heap.size wo Wp := by rw [hWp]; exact (Below.alloc (Below.refl _ _) (by simp <;> omega) _)
          have eWp : Hid (Wp.heap.size = wo.heap.size + 1) := Lib.hid (by rw [hWp]; simp)
          clear hWp
          have BP := hB.trans (BWp.mono hB.size)
          obtain ⟨xm0, xm1⟩ := HC.out Wp BP m hm
          have zb : b < Wp.heap.size := Nat.lt_of_lt_of_le hbz BWp.size
          refine wp_region_B (fun W => Below Wp.heap.size Wp W) (by kernel_rfl) (by repeat (first | exact Below.refl _ _ | apply Below.drew)) ?_
          first | refine wpB_skip 0 rfl (by kernel_rfl) (by kernel_rfl) (by kernel_rfl) (by rfl) ?_ | (refine wpB_text 0 (v := ?_) rfl (by kernel_rfl) (by kernel_rfl) (by kernel_rfl) (by rfl) (fun W hW => ?_) ?_; rotate_left; (have k1 := hW; obtain ⟨hc1, hf1⟩ := bcell k1; go_simp; refine comes_v ?_; exact k1))
          (try simp only [Act.put, List.setIfInBounds_toArray, List.set_cons_zero, List.set_cons_succ])
          first | refine wpB_skip 1 rfl (by kernel_rfl) (by kernel_rfl) (by kernel_rfl) (by rfl) ?_ | (refine wpB_text 1 (v := ?_) rfl (by kernel_rfl) (by kernel_rfl) (by kernel_rfl) (by rfl) (fun W hW => ?_) ?_; rotate_left; (have k1 := hW; obtain ⟨hc1, hf1⟩ := bcell k1; go_simp; refine comes_v ?_; exact k1))
          (try simp only [Act.put, List.setIfInBounds_toArray, List.set_cons_zero, List.set_cons_succ])
          first | refine wpB_skip 2 rfl (by kernel_rfl) (by kernel_rfl) (by kernel_rfl) (by rfl) ?_ | (refine wpB_text 2 (v := ?_) rfl (by kernel_rfl) (by kernel_rfl) (by kernel_rfl) (by rfl) (fun W hW => ?_) ?_; rotate_left; (have k1 := hW; obtain ⟨hc1, hf1⟩ := bcell k1; go_simp; refine comes_v ?_; exact k1))
          (try simp only [Act.put, List.setIfInBounds_toArray, List.set_cons_zero, List.set_cons_succ])
          first | refine wpB_skip 3 rfl (by kernel_rfl) (by kernel_rfl) (by kernel_rfl) (by rfl) ?_ | (refine wpB_text 3 (v := ?_) rfl (by kernel_rfl) (by kernel_rfl) (by kernel_rfl) (by rfl) (fun W hW => ?_) ?_; rotate_left; (have k1 := hW; obtain ⟨hc1, hf1⟩ := bcell k1; go_simp; refine comes_v ?_; exact k1))
          (try simp only [Act.put, List.setIfInBounds_toArray, List.set_cons_zero, List.set_cons_succ])
          first | refine wpB_skip 4 rfl (by kernel_rfl) (by kernel_rfl) (by kernel_rfl) (by rfl) ?_ | (refine wpB_text 4 (v := ?_) rfl (by kernel_rfl) (by kernel_rfl) (by kernel_rfl) (by rfl) (fun W hW => ?_) ?_; rotate_left; (have k1 := hW; obtain ⟨hc1, hf1⟩ := bcell k1; go_simp; refine comes_v ?_; exact k1))
          (try simp only [Act.put, List.setIfInBounds_toArray, List.set_cons_zero, List.set_cons_succ])
          first | refine wpB_skip 5 rfl (by kernel_rfl) (by kernel_rfl) (by kernel_rfl) (by rfl) ?_ | (refine wpB_text 5 (v := .bool false) rfl (by kernel_rfl) (by kernel_rfl) (by kernel_rfl) (by rfl) (fun W hW => ?_) ?_; (have k1 := hW; obtain ⟨hc1, hf1⟩ := bcell k1; go_simp; exact comes_c ( KL.out _) (fun wn hbn => bt_keep k1 hbn)))
          (try simp only [Act.put, List.setIfInBounds_toArray, List.set_cons_zero, List.set_cons_succ])
          refine wpB_done (by kernel_rfl) ?_ _
          intro W hW; have k1 := hW
          have B3 := BP.trans (k1.mono BP.size)
          clear xm0 xm1 zWp0 fWp0 yWp0_0 yWp0_1 eWp BWp BP y0 y1
          go_wp2_with fail
          go_roundg (n - (k + 1))
          case measure => have := HGK.out; omega
          case rel => exact ⟨k + 1, by omega, rfl, by go_num, by rw [E2.out], B3⟩
      · have hkn : n = k := by omega
        subst hkn
        go_wp2_with fail
        have km := minI_lt (vx l2) n (by omega)
        generalize minI (vx l2) n = m at *
        have e1 : (0 : Int) ≤ (m : Int) := by omega
        have e2 : (m : Int) ≤ (n : Int) := by omega
        have e3 : (m : Int) ≤ (c2 : Int) := by omega
        refine wp_region_any (by kernel_rfl) ?_
        refine wpAny_take (i := 1) (v := .slice (some ⟨b, off, none⟩) n c2) rfl (by kernel_rfl) (by kernel_rfl) (by kernel_rfl) (fun _ _ _ h => h) (Or.inl ⟨by rfl, fun W => by first | rfl | go_simp⟩) ?_
        (try simp only [List.getElem_toArray, List.getElem_cons_zero, List.getElem_cons_succ, Act.put, List.setIfInBounds_toArray, List.set_cons_zero, List.set_cons_succ])
        refine wpAny_take (i := 2) (v := .int .i64 m) rfl (by kernel_rfl) (by kernel_rfl) (by kernel_rfl) (fun _ _ _ h => h) (Or.inl ⟨by rfl, fun W => by first | rfl | go_simp⟩) ?_
        (try simp only [List.getElem_toArray, List.getElem_cons_zero, List.getElem_cons_succ, Act.put, List.setIfInBounds_toArray, List.set_cons_zero, List.set_cons_succ])
        refine wpAny_take (i := 3) (v := .slice (some ⟨b, off + m * 2, none⟩) (n - m) (c2 - m)) rfl (by kernel_rfl) (by kernel_rfl) (by kernel_rfl) (fun _ _ _ h => h) (Or.inl ⟨by rfl, fun W => by go_simp; try (intro h; omega)⟩) ?_
        (try simp only [List.getElem_toArray, List.getElem_cons_zero, List.getElem_cons_succ, Act.put, List.setIfInBounds_toArray, List.set_cons_zero, List.set_cons_succ])
        refine wpAny_take (i := 5) (v := .slice (some ⟨b, off, none⟩) n c2) rfl (by kernel_rfl) (by kernel_rfl) (by kernel_rfl) (fun _ _ _ h => h) (Or.inl ⟨by rfl, fun W => by first | rfl | go_simp⟩) ?_
        (try simp only [List.getElem_toArray, List.getElem_cons_zero, List.getElem_cons_succ, Act.put, List.setIfInBounds_toArray, List.set_cons_zero, List.set_cons_succ])
        refine wpAny_take (i := 6) (v := .int .i64 m) rfl (by kernel_rfl) (by kernel_rfl) (by kernel_rfl) (fun _ _ _ h => h) (Or.inl ⟨by rfl, fun W => by first | rfl | go_simp⟩) ?_
        (try simp only [List.getElem_toArray, List.getElem_cons_zero, List.getElem_cons_succ, Act.put, List.setIfInBounds_toArray, List.set_cons_zero, List.set_cons_succ])
        refine wpAny_take (i := 7) (v := .slice (some ⟨b, off, none⟩) m c2) rfl (by kernel_rfl) (by kernel_rfl) (by kernel_rfl) (fun _ _ _ h => h) (Or.inl ⟨by rfl, fun W => by go_simp; try (intro h; omega)⟩) ?_
        (try simp only [List.getElem_toArray, List.getElem_cons_zero, List.getElem_cons_succ, Act.put, List.setIfInBounds_toArray, List.set_cons_zero, List.set_cons_succ])
        refine wpAny_all (rs := [0]) (by kernel_rfl) (by simp) (fun i hi => ?_)
        obtain rfl : i = 0 := by simpa using hi
        refine wpOp_val (v := .slice (some ⟨wo.heap.size, 0, none⟩) 0 0) (w' := wo.drew.alloc (.cells #[] 34)) rfl (by rfl) (by go_simp) ?_
        (try simp only [List.getElem_toArray, List.getElem_cons_zero, List.getElem_cons_succ, Act.put, List.setIfInBounds_toArray, List.set_cons_zero, List.set_cons_succ])
        have HB0 := (hB.drew).alloc (w := wo.drew) (by exact hB.size) (.cells #[] 34)
        have X0 := HC.out _ HB0
        have HZ := hz2
        have own0 : (wo.drew.alloc (.cells #[] 34)).ownsRow w2.heap.size 34 2 (.slice (some ⟨wo.heap.size, 0, none⟩) 0 0) 0 [] := World.ownsRow_lit wo.drew #[] 0 (by have := hB.size; show w2.heap.size ≤ wo.heap.size; omega) (by decide) rfl
        have HX := HB0.size
        refine wpAny_all (rs := [4]) (by kernel_rfl) (by simp) (fun i hi => ?_)
        obtain rfl : i = 4 := by simpa using hi
        obtain ⟨i0, hi0, hz0, hz1, hz2'⟩ := info_parts peg_info
        refine wpOp_left rfl (by rfl) (wp_append_own _ (.tmp 26) (.tmp 29) 26 rfl w2.heap.size 34 i0 (.agg #[.int .i64 0, .int .i64 0]) 2 16 Try.underlying26 hi0 hz0 hz1 hz2' rfl (by decide) (.slice (some ⟨wo.heap.size, 0, none⟩) 0 0) 0 [] rfl own0 ⟨b, off + m * 2, none⟩ (n - m) (c2 - m) (flat (l2.drop m)) rfl (by rw [flat_len, List.length_drop, HN2.out]) (drop_cells (by rw [HN2.out]; omega) (fun i hi => X0 i (by rw [HN2.out] at hi; exact hi))) (flat_one _) (by unfold maxLen; omega) (by omega) HX ?_)
        intro v4 w4 hown4 hgr4 _
        have B4 := HB0.grown hgr4 HX fun g hgk => (World.ownsRow.lt own0 g hgk).1
        have X4 := HC.out _ B4
        have HX4 := B4.size
        clear own0 hgr4 X0 HB0 HX HZ
        (try simp only [List.getElem_toArray, List.getElem_cons_zero, List.getElem_cons_succ, Act.put, List.setIfInBounds_toArray, List.set_cons_zero, List.set_cons_succ])
        refine wpAny_all (rs := [8]) (by kernel_rfl) (by simp) (fun i hi => ?_)
        obtain rfl : i = 8 := by simpa using hi
        refine wpOp_left rfl (by rfl) (wp_append_own _ (.tmp 30) (.tmp 33) 26 rfl w2.heap.size 34 i0 (.agg #[.int .i64 0, .int .i64 0]) 2 16 Try.underlying26 hi0 hz0 hz1 hz2' rfl (by decide) v4 (0 + (n - m)) ([] ++ flat (l2.drop m)) rfl hown4 ⟨b, off, none⟩ m c2 (flat (l2.take m)) rfl (by rw [flat_len, List.length_take, HN2.out]; omega) (take_cells (by rw [HN2.out]; omega) (fun i hi => X4 i (by rw [HN2.out] at hi; exact hi))) (flat_one _) (by unfold maxLen; omega) (by omega) HX4 ?_)
        intro v5 w5 hown5 hgr5 _
        have B5 := B4.grown hgr5 HX4 fun g hgk => (World.ownsRow.lt hown4 g hgk).1
        have R5 := Lib.hid (row_rot (l := l2) (by rw [HN2.out]; exact km) (by rw [HN2.out]; exact hown5))
        clear hown4 hown5 hgr5 X4 B4 HX4 hi0 hz0 hz1 hz2'
        (try simp only [List.getElem_toArray, List.getElem_cons_zero, List.getElem_cons_succ, Act.put, List.setIfInBounds_toArray, List.set_cons_zero, List.set_cons_succ])
        refine wpAny_all (rs := [9]) (by kernel_rfl) (by simp) (fun i hi => ?_)
        obtain rfl : i = 9 := by simpa using hi
        refine wpOp_val (v := v5) (w' := w5) rfl (by rfl) (by first | rfl | go_simp) ?_
        (try simp only [List.getElem_toArray, List.getElem_cons_zero, List.getElem_cons_succ, Act.put, List.setIfInBounds_toArray, List.set_cons_zero, List.set_cons_succ])
        refine wpAny_done (by kernel_rfl) ?_ _
        go_wp2_with fail
        go_ret
        have R6 := R5.out
        rw [HN2.out] at R6
        have Q6 := retP_row (w := w2) R6 B5
        rw [firsts_same n HT.out] at Q6
        exact retP_up hb2 Q6
  · obtain ⟨b, off, rfl, hb, HC0⟩ := pts_of (by omega) hR
    have HT : Hid (∀ i, i < l.length → rotF l (minI (vx l) l.length) i = tellF l i) := Lib.hid (fun i _ => tell_fore (l := l) ha i)
    clear hgd hR
    generalize areaN l = ar at *
    generalize hN : l.length = n at *
    have HN := Lib.hid hN
    clear hN
    go_enter Try.func52, Try.ntmps52
    go_wp2_with fail
    refine KA.out.mono ?_; rintro e w2 ⟨rfl, hb2⟩
    have HC := Lib.hid (fun W (hW : Below w2.heap.size w2 W) => HC0.out W (hb2.trans (hW.mono hb2.size)))
    have hz2 := hb2.size
    have hbb : b < w2.heap.size := by omega
    go_wp2_with fail
    go_loopg [3, 13] n (fun g s i wr => ∃ k : Nat, k ≤ n ∧ g = n - k ∧ i = .int .i64 k ∧ s = .int .i64 (minI (vx l) k : Nat) ∧ Below w2.heap.size w2 wr)
    case atStart => exact ⟨0, Nat.zero_le _, rfl, rfl, rfl, Below.refl _ _⟩
    case round =>
      obtain ⟨k, hk, hg, rfl, rfl, hB⟩ := hrel
      rename World => wo
      have HGK := Lib.hid hg
      clear hg
      by_cases hlt : k < n
      · obtain ⟨y0, y1⟩ := HC.out wo hB k hlt
        have hm : minI (vx l) k < n := by
          rcases Nat.eq_zero_or_pos k with h0 | h0
          · subst h0; exact hlt
          · have := minI_lt (vx l) k h0; omega
        have hbz : b < wo.heap.size := by have := hB.size; omega
        have EM : Hid (minI (vx l) (k + 1) = if ltP (vx l k) (vx l (minI (vx l) k)) = true then k else minI (vx l) k) := Lib.hid rfl
        generalize minI (vx l) k = m at *
        have KL := Lib.hid (fun W => pgLess_any (vx l k).1 (vx l k).2 (vx l m).1 (vx l m).2 W)
        have e1 : (m : Int) < (n : Int) := by omega
        by_cases hb : ltP (vx l k) (vx l m) = true
        · rw [show ltP ((vx l k).1, (vx l k).2) ((vx l m).1, (vx l m).2) = true from hb] at KL
          have E2 : Hid (minI (vx l) (k + 1) = k) := Lib.hid (by rw [EM.out, if_pos hb])
          clear EM hb
          go_wp2_with fail
          obtain ⟨Wp, hWp⟩ : ∃ Wp, Wp = (wo.alloc (.cells #[.int .i64 ((vx l k).1), .int .i64 ((vx l k).2)] 34)) := ⟨_, rfl⟩
          rw [← hWp]
          have yWp0_0 : Wp.cell? ⟨wo.heap.size, 0, none⟩ = some (.int .i64 ((vx l k).1)) := by rw [hWp]; go_simp
          have yWp0_1 : Wp.cell? ⟨wo.heap.size, 1, none⟩ = some (.int .i64 ((vx l k).2)) := by rw [hWp]; go_simp
          have fWp0 : ∀ o, Wp.frozen? ⟨wo.heap.size, o, none⟩ = false := by intro o; rw [hWp]; (repeat rw [frozen?_alloc_cells]); simp [World.frozen?]
          have zWp0 : wo.heap.size < Wp.heap.size := by rw [hWp]; simp <;> omega
          have BWp : Below wo.heap.size wo Wp := by rw [hWp]; exact (Below.alloc (Below.refl _ _) (by simp <;> omega) _)
          have eWp : Hid (Wp.heap.size = wo.heap.size + 1) := Lib.hid (by rw [hWp]; simp)
          clear hWp
          have BP := hB.trans (BWp.mono hB.size)
          obtain ⟨xm0, xm1⟩ := HC.out Wp BP m hm
          have zb : b < Wp.heap.size := Nat.lt_of_lt_of_le hbz BWp.size
          refine wp_region_B (fun W => Below Wp.heap.size Wp W) (by kernel_rfl) (by repeat (first | exact Below.refl _ _ | apply Below.drew)) ?_
          first | refine wpB_skip 0 rfl (by kernel_rfl) (by kernel_rfl) (by kernel_rfl) (by rfl) ?_ | (refine wpB_text 0 (v := ?_) rfl (by kernel_rfl) (by kernel_rfl) (by kernel_rfl) (by rfl) (fun W hW => ?_) ?_; rotate_left; (have k1 := hW; obtain ⟨hc1, hf1⟩ := bcell k1; go_simp; refine comes_v ?_; exact k1))
          (try simp only [Act.put, List.setIfInBounds_toArray, List.set_cons_zero, List.set_cons_succ])
          first | refine wpB_skip 1 rfl (by kernel_rfl) (by kernel_rfl) (by kernel_rfl) (by rfl) ?_ | (refine wpB_text 1 (v := ?_) rfl (by kernel_rfl) (by kernel_rfl) (by kernel_rfl) (by rfl) (fun W hW => ?_) ?_; rotate_left; (have k1 := hW; obtain ⟨hc1, hf1⟩ := bcell k1; go_simp; refine comes_v ?_; exact k1))
          (try simp only [Act.put, List.setIfInBounds_toArray, List.set_cons_zero, List.set_cons_succ])
          first | refine wpB_skip 2 rfl (by kernel_rfl) (by kernel_rfl) (by kernel_rfl) (by rfl) ?_ | (refine wpB_text 2 (v := ?_) rfl (by kernel_rfl) (by kernel_rfl) (by kernel_rfl) (by rfl) (fun W hW => ?_) ?_; rotate_left; (have k1 := hW; obtain ⟨hc1, hf1⟩ := bcell k1; go_simp; refine comes_v ?_; exact k1))
          (try simp only [Act.put, List.setIfInBounds_toArray, List.set_cons_zero, List.set_cons_succ])
          first | refine wpB_skip 3 rfl (by kernel_rfl) (by kernel_rfl) (by kernel_rfl) (by rfl) ?_ | (refine wpB_text 3 (v := ?_) rfl (by kernel_rfl) (by kernel_rfl) (by kernel_rfl) (by rfl) (fun W hW => ?_) ?_; rotate_left; (have k1 := hW; obtain ⟨hc1, hf1⟩ := bcell k1; go_simp; refine comes_v ?_; exact k1))
          (try simp only [Act.put, List.setIfInBounds_toArray, List.set_cons_zero, List.set_cons_succ])
          first | refine wpB_skip 4 rfl (by kernel_rfl) (by kernel_rfl) (by kernel_rfl) (by rfl) ?_ | (refine wpB_text 4 (v := ?_) rfl (by kernel_rfl) (by kernel_rfl) (by kernel_rfl) (by rfl) (fun W hW => ?_) ?_; rotate_left; (have k1 := hW; obtain ⟨hc1, hf1⟩ := bcell k1; go_simp; refine comes_v ?_; exact k1))
          (try simp only [Act.put, List.setIfInBounds_toArray, List.set_cons_zero, List.set_cons_succ])
          first | refine wpB_skip 5 rfl (by kernel_rfl) (by kernel_rfl) (by kernel_rfl) (by rfl) ?_ | (refine wpB_text 5 (v := .bool true) rfl (by kernel_rfl) (by kernel_rfl) (by kernel_rfl) (by rfl) (fun W hW => ?_) ?_; (have k1 := hW; obtain ⟨hc1, hf1⟩ := bcell k1; go_simp; exact comes_c ( KL.out _) (fun wn hbn => bt_keep k1 hbn)))
          (try simp only [Act.put, List.setIfInBounds_toArray, List.set_cons_zero, List.set_cons_succ])
          refine wpB_done (by kernel_rfl) ?_ _
          intro W hW; have k1 := hW
          have B3 := BP.trans (k1.mono BP.size)
          clear xm0 xm1 zWp0 fWp0 yWp0_0 yWp0_1 eWp BWp BP y0 y1
          go_wp2_with fail
          go_roundg (n - (k + 1))
          case measure => have := HGK.out; omega
          case rel => exact ⟨k + 1, by omega, rfl, by go_num, by rw [E2.out], B3⟩
        · rw [show ltP ((vx l k).1, (vx l k).2) ((vx l m).1, (vx l m).2) = false from (by simpa using hb)] at KL
          have E2 : Hid (minI (vx l) (k + 1) = m) := Lib.hid (by rw [EM.out, if_neg hb])
          clear EM hb
          go_wp2_with fail
          obtain ⟨Wp, hWp⟩ : ∃ Wp, Wp = (wo.alloc (.cells #[.int .i64 ((vx l k).1), .int .i64 ((vx l k).2)] 34)) := ⟨_, rfl⟩
          rw [← hWp]
          have yWp0_0 : Wp.cell? ⟨wo.heap.size, 0, none⟩ = some (.int .i64 ((vx l k).1)) := by rw [hWp]; go_simp
          have yWp0_1 : Wp.cell? ⟨wo.heap.size, 1, none⟩ = some (.int .i64 ((vx l k).2)) := by rw [hWp]; go_simp
          have fWp0 : ∀ o, Wp.frozen? ⟨wo.heap.size, o, none⟩ = false := by intro o; rw [hWp]; (repeat rw [frozen?_alloc_cells]); simp [World.frozen?]
          have zWp0 : wo.heap.size < Wp.heap.size := by rw [hWp]; simp <;> omega
          have BWp : Below wo.heap.size wo Wp := by rw [hWp]; exact (Below.alloc (Below.refl _ _) (by simp <;> omega) _)
          have eWp : Hid (Wp.heap.size = wo.heap.size + 1) := Lib.hid (by rw [hWp]; simp)
          clear hWp
          have BP := hB.trans (BWp.mono hB.size)
          obtain ⟨xm0, xm1⟩ := HC.out Wp BP m hm
          have zb : b < Wp.heap.size := Nat.lt_of_lt_of_le hbz BWp.size
          refine wp_region_B (fun W => Below Wp.heap.size Wp W) (by kernel_rfl) (by repeat (first | exact Below.refl _ _ | apply Below.drew)) ?_
          first | refine wpB_skip 0 rfl (by kernel_rfl) (by kernel_rfl) (by kernel_rfl) (by rfl) ?_ | (refine wpB_text 0 (v := ?_) rfl (by kernel_rfl) (by kernel_rfl) (by kernel_rfl) (by rfl) (fun W hW => ?_) ?_; rotate_left; (have k1 := hW; obtain ⟨hc1, hf1⟩ := bcell k1; go_simp; refine comes_v ?_; exact k1))
          (try simp only [Act.put, List.setIfInBounds_toArray, List.set_cons_zero, List.set_cons_succ])
          first | refine wpB_skip 1 rfl (by kernel_rfl) (by kernel_rfl) (by kernel_rfl) (by rfl) ?_ | (refine wpB_text 1 (v := ?_) rfl (by kernel_rfl) (by kernel_rfl) (by kernel_rfl) (by rfl) (fun W hW => ?_) ?_; rotate_left; (have k1 := hW; obtain ⟨hc1, hf1⟩ := bcell k1; go_simp; refine comes_v ?_; exact k1))
          (try simp only [Act.put, List.setIfInBounds_toArray, List.set_cons_zero, List.set_cons_succ])
          first | refine wpB_skip 2 rfl (by kernel_rfl) (by kernel_rfl) (by kernel_rfl) (by rfl) ?_ | (refine wpB_text 2 (v := ?_) rfl (by kernel_rfl) (by kernel_rfl) (by kernel_rfl) (by rfl) (fun W hW => ?_) ?_; rotate_left; (have k1 := hW; obtain ⟨hc1, hf1⟩ := bcell k1; go_simp; refine comes_v ?_; exact k1))
          (try simp only [Act.put, List.setIfInBounds_toArray, List.set_cons_zero, List.set_cons_succ])
          first | refine wpB_skip 3 rfl (by kernel_rfl) (by kernel_rfl) (by kernel_rfl) (by rfl) ?_ | (refine wpB_text 3 (v := ?_) rfl (by kernel_rfl) (by kernel_rfl) (by kernel_rfl) (by rfl) (fun W hW => ?_) ?_; rotate_left; (have k1 := hW; obtain ⟨hc1, hf1⟩ := bcell k1; go_simp; refine comes_v ?_; exact k1))
          (try simp only [Act.put, List.setIfInBounds_toArray, List.set_cons_zero, List.set_cons_succ])
          first | refine wpB_skip 4 rfl (by kernel_rfl) (by kernel_rfl) (by kernel_rfl) (by rfl) ?_ | (refine wpB_text 4 (v := ?_) rfl (by kernel_rfl) (by kernel_rfl) (by kernel_rfl) (by rfl) (fun W hW => ?_) ?_; rotate_left; (have k1 := hW; obtain ⟨hc1, hf1⟩ := bcell k1; go_simp; refine comes_v ?_; exact k1))
          (try simp only [Act.put, List.setIfInBounds_toArray, List.set_cons_zero, List.set_cons_succ])
          first | refine wpB_skip 5 rfl (by kernel_rfl) (by kernel_rfl) (by kernel_rfl) (by rfl) ?_ | (refine wpB_text 5 (v := .bool false) rfl (by kernel_rfl) (by kernel_rfl) (by kernel_rfl) (by rfl) (fun W hW => ?_) ?_; (have k1 := hW; obtain ⟨hc1, hf1⟩ := bcell k1; go_simp; exact comes_c ( KL.out _) (fun wn hbn => bt_keep k1 hbn)))
          (try simp only [Act.put, List.setIfInBounds_toArray, List.set_cons_zero, List.set_cons_succ])
          refine wpB_done (by kernel_rfl) ?_ _
          intro W hW; have k1 := hW
          have B3 := BP.trans (k1.mono BP.size)
          clear xm0 xm1 zWp0 fWp0 yWp0_0 yWp0_1 eWp BWp BP y0 y1
          go_wp2_with fail
          go_roundg (n - (k + 1))
          case measure => have := HGK.out; omega
          case rel => exact ⟨k + 1, by omega, rfl, by go_num, by rw [E2.out], B3⟩
      · have hkn : n = k := by omega
        subst hkn
        go_wp2_with fail
        have km := minI_lt (vx l) n (by omega)
        generalize minI (vx l) n = m at *
        have e1 : (0 : Int) ≤ (m : Int) := by omega
        have e2 : (m : Int) ≤ (n : Int) := by omega
        have e3 : (m : Int) ≤ (c : Int) := by omega
        refine wp_region_any (by kernel_rfl) ?_
        refine wpAny_take (i := 1) (v := .slice (some ⟨b, off, none⟩) n c) rfl (by kernel_rfl) (by kernel_rfl) (by kernel_rfl) (fun _ _ _ h => h) (Or.inl ⟨by rfl, fun W => by first | rfl | go_simp⟩) ?_
        (try simp only [List.getElem_toArray, List.getElem_cons_zero, List.getElem_cons_succ, Act.put, List.setIfInBounds_toArray, List.set_cons_zero, List.set_cons_succ])
        refine wpAny_take (i := 2) (v := .int .i64 m) rfl (by kernel_rfl) (by kernel_rfl) (by kernel_rfl) (fun _ _ _ h => h) (Or.inl ⟨by rfl, fun W => by first | rfl | go_simp⟩) ?_
        (try simp only [List.getElem_toArray, List.getElem_cons_zero, List.getElem_cons_succ, Act.put, List.setIfInBounds_toArray, List.set_cons_zero, List.set_cons_succ])
        refine wpAny_take (i := 3) (v := .slice (some ⟨b, off + m * 2, none⟩) (n - m) (c - m)) rfl (by kernel_rfl) (by kernel_rfl) (by kernel_rfl) (fun _ _ _ h => h) (Or.inl ⟨by rfl, fun W => by go_simp; try (intro h; omega)⟩) ?_
        (try simp only [List.getElem_toArray, List.getElem_cons_zero, List.getElem_cons_succ, Act.put, List.setIfInBounds_toArray, List.set_cons_zero, List.set_cons_succ])
        refine wpAny_take (i := 5) (v := .slice (some ⟨b, off, none⟩) n c) rfl (by kernel_rfl) (by kernel_rfl) (by kernel_rfl) (fun _ _ _ h => h) (Or.inl ⟨by rfl, fun W => by first | rfl | go_simp⟩) ?_
        (try simp only [List.getElem_toArray, List.getElem_cons_zero, List.getElem_cons_succ, Act.put, List.setIfInBounds_toArray, List.set_cons_zero, List.set_cons_succ])
        refine wpAny_take (i := 6) (v := .int .i64 m) rfl (by kernel_rfl) (by kernel_rfl) (by kernel_rfl) (fun _ _ _ h => h) (Or.inl ⟨by rfl, fun W => by first | rfl | go_simp⟩) ?_
        (try simp only [List.getElem_toArray, List.getElem_cons_zero, List.getElem_cons_succ, Act.put, List.setIfInBounds_toArray, List.set_cons_zero, List.set_cons_succ])
        refine wpAny_take (i := 7) (v := .slice (some ⟨b, off, none⟩) m c) rfl (by kernel_rfl) (by kernel_rfl) (by kernel_rfl) (fun _ _ _ h => h) (Or.inl ⟨by rfl, fun W => by go_simp; try (intro h; omega)⟩) ?_
        (try simp only [List.getElem_toArray, List.getElem_cons_zero, List.getElem_cons_succ, Act.put, List.setIfInBounds_toArray, List.set_cons_zero, List.set_cons_succ])
        refine wpAny_all (rs := [0]) (by kernel_rfl) (by simp) (fun i hi => ?_)
        obtain rfl : i = 0 := by simpa using hi
        refine wpOp_val (v := .slice (some ⟨wo.heap.size, 0, none⟩) 0 0) (w' := wo.drew.alloc (.cells #[] 34)) rfl (by rfl) (by go_simp) ?_
        (try simp only [List.getElem_toArray, List.getElem_cons_zero, List.getElem_cons_succ, Act.put, List.setIfInBounds_toArray, List.set_cons_zero, List.set_cons_succ])
        have HB0 := (hB.drew).alloc (w := wo.drew) (by exact hB.size) (.cells #[] 34)
        have X0 := HC.out _ HB0
        have HZ := hz2
        have own0 : (wo.drew.alloc (.cells #[] 34)).ownsRow w2.heap.size 34 2 (.slice (some ⟨wo.heap.size, 0, none⟩) 0 0) 0 [] := World.ownsRow_lit wo.drew #[] 0 (by have := hB.size; show w2.heap.size ≤ wo.heap.size; omega) (by decide) rfl
        have HX := HB0.size
        refine wpAny_all (rs := [4]) (by kernel_rfl) (by simp) (fun i hi => ?_)
        obtain rfl : i = 4 := by simpa using hi
        obtain ⟨i0, hi0, hz0, hz1, hz2'⟩ := info_parts peg_info
        refine wpOp_left rfl (by rfl) (wp_append_own _ (.tmp 26) (.tmp 29) 26 rfl w2.heap.size 34 i0 (.agg #[.int .i64 0, .int .i64 0]) 2 16 Try.underlying26 hi0 hz0 hz1 hz2' rfl (by decide) (.slice (some ⟨wo.heap.size, 0, none⟩) 0 0) 0 [] rfl own0 ⟨b, off + m * 2, none⟩ (n - m) (c - m) (flat (l.drop m)) rfl (by rw [flat_len, List.length_drop, HN.out]) (drop_cells (by rw [HN.out]; omega) (fun i hi => X0 i (by rw [HN.out] at hi; exact hi))) (flat_one _) (by unfold maxLen; omega) (by omega) HX ?_)
        intro v4 w4 hown4 hgr4 _
        have B4 := HB0.grown hgr4 HX fun g hgk => (World.ownsRow.lt own0 g hgk).1
        have X4 := HC.out _ B4
        have HX4 := B4.size
        clear own0 hgr4 X0 HB0 HX HZ
        (try simp only [List.getElem_toArray, List.getElem_cons_zero, List.getElem_cons_succ, Act.put, List.setIfInBounds_toArray, List.set_cons_zero, List.set_cons_succ])
        refine wpAny_all (rs := [8]) (by kernel_rfl) (by simp) (fun i hi => ?_)
        obtain rfl : i = 8 := by simpa using hi
        refine wpOp_left rfl (by rfl) (wp_append_own _ (.tmp 30) (.tmp 33) 26 rfl w2.heap.size 34 i0 (.agg #[.int .i64 0, .int .i64 0]) 2 16 Try.underlying26 hi0 hz0 hz1 hz2' rfl (by decide) v4 (0 + (n - m)) ([] ++ flat (l.drop m)) rfl hown4 ⟨b, off, none⟩ m c (flat (l.take m)) rfl (by rw [flat_len, List.length_take, HN.out]; omega) (take_cells (by rw [HN.out]; omega) (fun i hi => X4 i (by rw [HN.out] at hi; exact hi))) (flat_one _) (by unfold maxLen; omega) (by omega) HX4 ?_)
        intro v5 w5 hown5 hgr5 _
        have B5 := B4.grown hgr5 HX4 fun g hgk => (World.ownsRow.lt hown4 g hgk).1
        have R5 := Lib.hid (row_rot (l := l) (by rw [HN.out]; exact km) (by rw [HN.out]; exact hown5))
        clear hown4 hown5 hgr5 X4 B4 HX4 hi0 hz0 hz1 hz2'
        (try simp only [List.getElem_toArray, List.getElem_cons_zero, List.getElem_cons_succ, Act.put, List.setIfInBounds_toArray, List.set_cons_zero, List.set_cons_succ])
        refine wpAny_all (rs := [9]) (by kernel_rfl) (by simp) (fun i hi => ?_)
        obtain rfl : i = 9 := by simpa using hi
        refine wpOp_val (v := v5) (w' := w5) rfl (by rfl) (by first | rfl | go_simp) ?_
        (try simp only [List.getElem_toArray, List.getElem_cons_zero, List.getElem_cons_succ, Act.put, List.setIfInBounds_toArray, List.set_cons_zero, List.set_cons_succ])
        refine wpAny_done (by kernel_rfl) ?_ _
        go_wp2_with fail
        go_ret
        have R6 := R5.out
        rw [HN.out] at R6
        have Q6 := retP_row (w := w2) R6 B5
        rw [firsts_same n HT.out] at Q6
        exact retP_up hb2 Q6
end Go.Proofs.Ytjkfdcjfoliboaa
/- contract: how many steps a line has, the model -/
namespace Go.Proofs.Ytjkfdcjfoliboaa
open Go.ChangeShapes Go.WideShapes Go.ChangeAt Go.RowKit Go.Joins
set_option linter.unusedVariables false
set_option linter.unusedSimpArgs false
set_option maxRecDepth 4000
theorem pgStep_any (a1 a2 b1 b2 : Int) (w : World) (ha : Sz a1 a2) (hb : Sz b1 b2) :
    Calls Try.prog 77 #[.agg #[.int .i64 a1, .int .i64 a2], .agg #[.int .i64 b1, .int .i64 b2]] w fun e w' => e = .returned (.int .i64 (stepN a1 a2 b1 b2)) ∧ Below w.heap.size w w' := by
  obtain ⟨x1, x2, x3, x4⟩ := ha
  obtain ⟨x5, x6, x7, x8⟩ := hb
  go_enter Try.func77, Try.ntmps77
  go_wp2_with fail
  refine (pgCommon_any _ _ _ (by omega) (by omega) (by omega) (by omega)).mono ?_; rintro e w1 ⟨rfl, hb1⟩
  obtain ⟨hc1, hf1⟩ := bcell hb1
  have z1_0 : w.heap.size < w1.heap.size := by (have := hb1.size; simp at this; omega)
  have z1_1 : w.heap.size + 1 < w1.heap.size := by (have := hb1.size; simp at this; omega)
  have B1 : Below w.heap.size w w1 := (Below.alloc (Below.alloc (Below.refl _ _) (by simp <;> omega) _) (by simp <;> omega) _).trans (hb1.mono (by simp <;> omega))
  go_wp2_with fail
  go_ret
  exact ⟨rfl, B1⟩
end Go.Proofs.Ytjkfdcjfoliboaa
/- 'x = append(x, ..)' whose order is open: the first operation, a move, may come ahead of any other one up to the append. -/
namespace Go.Proofs.Ytjkfdcjfoliboaa
open Go.ChangeShapes Go.WideShapes Go.ChangeAt Go.RowKit Go.Joins
set_option linter.unusedVariables false
set_option linter.unusedSimpArgs false
set_option maxRecDepth 4000
section
variable {P : Program} {ops : Array Oper} {md : Region.Mode} {S : World → Prop}
def sink1B (md : Region.Mode) (ops : Array Oper) (n : Nat) : Bool :=
  (List.range n).all fun i => decide (i = 0) || (List.range (n + 1)).any fun j => decide (i < j) && Region.waitsFor md ops j i
theorem tail_waits1 {n : Nat} {listed : Array Bool} (hs : sink1B md ops n = true) (hc : Region.chainB md ops n = true) (hn : n < ops.size) (inv : HeadInv md ops n listed) :
    ∀ (d i : Nat), n - i = d → i < n → i ≠ 0 → listed.getD i true = false → ∀ t, n ≤ t → t ∉ Region.ready md ops listed := by
  intro d
  induction d using Nat.strongRecOn with
  | _ d ih =>
    intro i hd hi hi0 hun t ht hr
    obtain ⟨_, ot, hot, hall⟩ := mem_ready.1 hr
    have htlt : t < ops.size := (Array.getElem?_eq_some_iff.1 hot).1
    by_cases htn : t = n
    · subst htn
      have h1 := List.all_eq_true.1 hs i (List.mem_range.2 hi)
      simp only [Bool.or_eq_true, decide_eq_true_eq] at h1
      rcases h1 with h1 | h1
      · exact hi0 h1
      obtain ⟨j, hj, hj2⟩ := List.any_eq_true.1 h1
      simp only [Bool.and_eq_true, decide_eq_true_eq] at hj2
      obtain ⟨oj, hoj, e, he, hb, hon⟩ := Region.waitsFor_spec hj2.2
      have hjle : j ≤ t := by have := List.mem_range.1 hj; omega
      by_cases hjt : j = t
      · subst hjt
        have : oj = ot := Option.some.inj (hoj.symm.trans hot)
        subst this
        have h2 := hall e he hb
        rw [hon, getD_both hun] at h2
        cases h2
      · cases hl : listed.getD j false with
        | true =>
          have h2 := inv.closed j oj hoj hl e he hb
          rw [hon, getD_both hun] at h2
          cases h2
        | false =>
          have hjs : j < listed.size := by rw [inv.size]; omega
          exact ih (t - j) (by omega) j rfl (by omega) (by omega) (getD_in hjs hl) t (Nat.le_refl _) hr
    · have h1 := List.all_eq_true.1 hc t (List.mem_range.2 htlt)
      simp only [Bool.or_eq_true, decide_eq_true_eq] at h1
      rcases h1 with h1 | h1
      · omega
      · obtain ⟨o', ho', e, he, hb, hon⟩ := Region.waitsFor_spec h1
        have : o' = ot := Option.some.inj (ho'.symm.trans hot)
        subst this
        have h2 := hall e he hb
        rw [hon, getD_both (inv.tail (t - 1) (by omega) (by omega))] at h2
        cases h2
theorem wpAnyS_first1 {n i : Nat} {oi : Oper} {v : Value} {L : Array Bool → Act → Prop} (hi : ops[i]? = some oi) (hsel : ∀ (j : Nat) (o : Oper) cs b, ops[j]? = some o → o.op ≠ .select cs b)
    (hs : sink1B md ops n = true) (hc : Region.chainB md ops n = true) (hn : n < ops.size) (hin : i < n) (hi0 : i ≠ 0)
    (hdone : ∀ listed a, L listed a → ∀ j ∈ Region.ready md ops listed, n ≤ j) :
    ∀ (f : Nat) (listed : Array Bool) (a : Act), HeadInv md ops n listed →
      (∀ j oj, ops[j]? = some oj → j ≠ i → listed.getD j true = false → (∀ e ∈ oj.after, Region.binds md e = true → e.on ≠ i) → oi.apart ops oj = true) →
      i ∈ Region.ready md ops listed → Steady P ops S oi v a →
      wpAnyS P md ops S n L f (listed.setIfInBounds i true) (a.put oi.dst v) → wpAnyS P md ops S n L (f + 1) listed a := by
  intro f
  induction f with
  | zero =>
    intro listed a inv _ hr hy H
    have hun := (mem_ready.1 hr).1
    refine ⟨fun h => (by rw [h] at hr; cases hr), fun j hj => ?_⟩
    have hjn : j < n := by
      rcases Nat.lt_or_ge j n with h | h
      · exact h
      · exact absurd hj (tail_waits1 hs hc hn inv _ i rfl hin hi0 hun j h)
    refine ⟨hjn, ?_⟩
    by_cases hji : j = i
    · subst hji; exact ⟨oi, v, hi, hy, H⟩
    · have := hdone _ _ H j (ready_mono hj hji)
      omega
  | succ f ih =>
    intro listed a inv hfree hr hy H
    have hun := (mem_ready.1 hr).1
    refine ⟨fun h => (by rw [h] at hr; cases hr), fun j hj => ?_⟩
    have hjn : j < n := by
      rcases Nat.lt_or_ge j n with h | h
      · exact h
      · exact absurd hj (tail_waits1 hs hc hn inv _ i rfl hin hi0 hun j h)
    refine ⟨hjn, ?_⟩
    by_cases hji : j = i
    · subst hji; exact ⟨oi, v, hi, hy, H⟩
    · obtain ⟨_, oj, u, hoj, hsj, Hj⟩ := H.2 j (ready_mono hj hji)
      obtain ⟨hjun, oj', hoj', hall⟩ := mem_ready.1 hj
      obtain rfl : oj' = oj := Option.some.inj (hoj'.symm.trans hoj)
      have hnot : ∀ e ∈ oj'.after, Region.binds md e = true → e.on ≠ i := fun e he hb heq => by
        have h1 := hall e he hb
        rw [heq, getD_both hun] at h1
        cases h1
      obtain ⟨h1, h2, h3⟩ := Oper.apart_spec (hfree j oj' hoj hji hjun hnot)
      have k1 : Steady P ops S oj' u a := steady_same hsj (execOp_put oj' (fun cs b => hsel j oj' cs b hoj) a oi.dst v h1).symm (wanted_put oj' a oi.dst v h1).symm
      have k2 : Steady P ops S oi v (a.put oj'.dst u) := steady_same hy (execOp_put oi (fun cs b => hsel i oi cs b hi) a oj'.dst u h3) (wanted_put oi a oj'.dst u h3)
      refine ⟨oj', u, hoj, k1, ih _ _ (inv.set hj hjn) (fun k ok hk hki hun hno => ?_) (ready_mono hr (Ne.symm hji)) k2 ?_⟩
      · refine hfree k ok hk hki ?_ hno
        by_cases hjk : j = k
        · subst hjk; exact hjun
        · rw [getD_set_ne true hjk] at hun; exact hun
      · rw [Array.setIfInBounds_comm _ _ hji, ← Act.put_comm a v u h2]
        exact Hj
theorem wpAnyS_lex1 {n g : Nat} {T : Act → Prop} (hsel : Region.noSelect ops = true) (hs : sink1B md ops n = true) (hc : Region.chainB md ops n = true) (hn : n < ops.size) :
    ∀ (l : List Oper) (k : Nat) (listed : Array Bool) (a : Act), (∀ j, j < l.length → l[j]? = ops[k + j]?) → k + l.length = n → k ≠ 0 → HeadInv md ops n listed →
    Region.lexHead md ops g l.length k listed = true → wpH P ops S T l a →
    wpAnyS P md ops S n (fun listed' a' => Region.seqB md ops g n listed' = true ∧ T a') l.length listed a
  | [], k, listed, a, _, hk, _, _, hB, h => by
    have : k = n := by simpa using hk
    subst this
    exact ⟨by simpa [Region.lexHead] using hB, h⟩
  | o :: l, k, listed, a, hl, hk, hk0, inv, hB, h => by
    have h0 : ops[k]? = some o := by simpa using (hl 0 (by simp)).symm
    simp only [List.length_cons, Region.lexHead, Bool.and_eq_true] at hB
    obtain ⟨⟨hr, hf⟩, hB'⟩ := hB
    have hkn : k < n := by simp only [List.length_cons] at hk; omega
    have hr' : k ∈ Region.ready md ops listed := by simpa using hr
    obtain ⟨v, hy, hK⟩ := h
    exact wpAnyS_first1 h0 (Region.noSelect_spec hsel) hs hc hn hkn hk0 (fun listed' a' hL => seqB_ready hL.1) l.length listed a inv (Region.free_spec h0 hf) hr' hy
      (wpAnyS_lex1 hsel hs hc hn l (k + 1) _ _ (fun j hj => by have := hl (j + 1) (by simp; omega); simpa [Nat.add_assoc, Nat.add_comm 1 j] using this) (by simp only [List.length_cons] at hk; omega) (by omega) (inv.set hr' hkn) hB' hK)
/-- what the first operation behind the head comes to: a value, in a world of its own -/
def TailV (P : Program) (ops : Array Oper) (Q : Exit → Act → World → Prop) (o : Oper) (rest : List Oper) (a : Act) (W : World) : Prop :=
  ∃ v w', (execOp a.eval o).run P W = .ok (.value v) w' ∧ wpList P ops Q rest (a.put o.dst v) w'
theorem op_value {o : Oper} {a : Act} {K : Act → World → Prop} {Q : Exit → Act → World → Prop} {W w' : World} {v : Value} (h1 : (execOp a.eval o).run P W = .ok (.value v) w') (h2 : K (a.put o.dst v) w') : o.wp P a W K Q := by
  unfold Oper.wp
  rw [h1]
  exact h2
theorem wpOp_value {i : Nat} {o : Oper} {a : Act} {K : Act → World → Prop} {Q : Exit → Act → World → Prop} {W w' : World} {v : Value} (hi : ops[i]? = some o) (hw : Region.wanted o (yielded ops a.tmps) = true)
    (h1 : (execOp a.eval o).run P W = .ok (.value v) w') (h2 : K (a.put o.dst v) w') : wpOp P ops Q i K a W := by
  unfold wpOp
  simp only [hi, hw, if_true]
  left
  exact op_value h1 h2
theorem wpAny_lazy {n g : Nat} {o0 on : Oper} {rest : List Oper} {v0 : Value} {Q : Exit → Act → World → Prop} (h0 : ops[0]? = some o0) (hon : ops[n]? = some on) (hn0 : n ≠ 0)
    (hrest : ∀ j, rest[j]? = ops[n + 1 + j]?) (hg : rest.length = g) (hsel : ∀ (j : Nat) (o : Oper) cs b, ops[j]? = some o → o.op ≠ .select cs b)
    (hap : o0.apart ops on = true) (hw1 : Region.waitsFor md ops (n + 1) 0 = true) (hc : Region.chainB md ops n = true) (hsz : n + 1 < ops.size) (hwn : ∀ a : Act, Region.wanted on (yielded ops a.tmps) = true) :
    ∀ (f : Nat) (listed : Array Bool) (a : Act), HeadInv md ops n listed →
      (∀ j oj, ops[j]? = some oj → j ≠ 0 → listed.getD j true = false → (∀ e ∈ oj.after, Region.binds md e = true → e.on ≠ 0) → o0.apart ops oj = true) →
      0 ∈ Region.ready md ops listed → Region.wanted o0 (yielded ops a.tmps) = true → (∀ w, (execOp a.eval o0).run P w = .ok (.value v0) w) →
      wpAnyS P md ops S n (fun listed' a' => Region.seqB md ops (g + 1) n listed' = true ∧ ∀ W, S W → TailV P ops Q on rest a' W) f (listed.setIfInBounds 0 true) (a.put o0.dst v0) →
      ∀ W, S W → wpAny P md ops Q (f + 1 + (g + 1)) listed a W := by
  intro f
  induction f with
  | zero =>
    intro listed a inv hfree hr hw hp H W hS
    obtain ⟨hB, hT⟩ := H
    obtain ⟨v, w', hv, hl⟩ := hT W hS
    have hB' := hB
    simp only [Region.seqB, Bool.and_eq_true, decide_eq_true_eq] at hB'
    obtain ⟨hrd, hB2⟩ := hB'
    have done : wpAny P md ops Q (g + 1) (listed.setIfInBounds 0 true) (a.put o0.dst v0) W := by
      refine ⟨fun h => (by rw [hrd] at h; cases h), fun i hi => ?_⟩
      rw [hrd] at hi
      have hin : i = n := by simpa using hi
      subst hin
      refine wpOp_value hon (hwn _) hv ?_
      have := wpAny_of_seq (md := md) (Q' := Q) rest (i + 1) ((listed.setIfInBounds 0 true).setIfInBounds i true) _ w' hrest (by rw [hg]; exact hB2) hl
      rw [hg] at this
      exact this
    rw [show 0 + 1 + (g + 1) = (g + 1) + 1 by omega]
    refine ⟨fun h => (by rw [h] at hr; cases hr), fun j hj => ?_⟩
    by_cases hj0 : j = 0
    · subst hj0
      exact wpOp_value h0 hw (hp W) done
    · have hjr := ready_mono (i := 0) hj hj0
      rw [hrd] at hjr
      have hjn : j = n := by simpa using hjr
      subst hjn
      obtain ⟨a1, a2, a3⟩ := Oper.apart_spec hap
      have hv2 : (execOp a.eval on).run P W = .ok (.value v) w' := by
        rw [← execOp_put on (fun cs b => hsel j on cs b hon) a o0.dst v0 a1]; exact hv
      refine wpOp_value hon (hwn _) hv2 ?_
      refine ⟨fun h => ?_, fun i hi => ?_⟩
      · have := ready_mono (i := j) hr (Ne.symm hj0)
        rw [h] at this; cases this
      · have hi0 : i = 0 := by
          apply Classical.byContradiction
          intro hi0
          have h0un : (listed.setIfInBounds j true).getD 0 false = false := by
            rw [getD_set_ne false hj0]; exact getD_both (mem_ready.1 hr).1
          have hi' := ready_mono (i := 0) hi hi0
          rw [Array.setIfInBounds_comm _ _ hj0] at hi'
          cases g with
          | zero =>
            simp only [Region.seqB, List.isEmpty_iff] at hB2
            rw [hB2] at hi'
            cases hi'
          | succ g =>
            simp only [Region.seqB, Bool.and_eq_true, decide_eq_true_eq] at hB2
            rw [hB2.1] at hi'
            have hi1 : i = j + 1 := by simpa using hi'
            subst hi1
            obtain ⟨_, oi, hoi, hall⟩ := mem_ready.1 hi
            obtain ⟨o', ho', e, he, hb, hon'⟩ := Region.waitsFor_spec hw1
            have : o' = oi := Option.some.inj (ho'.symm.trans hoi)
            subst this
            have h2 := hall e he hb
            rw [hon', h0un] at h2
            cases h2
        subst hi0
        have hp2 : (execOp (a.put on.dst v).eval o0).run P w' = .ok (.value v0) w' := by
          rw [execOp_put o0 (fun cs b => hsel 0 o0 cs b h0) a on.dst v a3]; exact hp w'
        have hw2 : Region.wanted o0 (yielded ops (a.put on.dst v).tmps) = true := by rw [wanted_put o0 a on.dst v a3]; exact hw
        refine wpOp_value h0 hw2 hp2 ?_
        rw [Array.setIfInBounds_comm _ _ hj0, ← Act.put_comm a v0 v a2]
        have := wpAny_of_seq (md := md) (Q' := Q) rest (j + 1) ((listed.setIfInBounds 0 true).setIfInBounds j true) _ w' hrest (by rw [hg]; exact hB2) hl
        rw [hg] at this
        exact this
  | succ f ih =>
    intro listed a inv hfree hr hw hp H W hS
    rw [show f + 1 + 1 + (g + 1) = (f + 1 + (g + 1)) + 1 by omega]
    refine ⟨fun h => (by rw [h] at hr; cases hr), fun j hj => ?_⟩
    by_cases hj0 : j = 0
    · subst hj0
      refine wpOp_value h0 hw (hp W) ?_
      refine wpAny_of_S (Q := Q) (g := g + 1) (fun listed' a' hL W' hW' => ?_) (f + 1) _ _ H W hS
      obtain ⟨hB, hT⟩ := hL
      obtain ⟨v, w', hv, hl⟩ := hT W' hW'
      simp only [Region.seqB, Bool.and_eq_true, decide_eq_true_eq] at hB
      refine ⟨fun h => (by rw [hB.1] at h; cases h), fun i hi => ?_⟩
      rw [hB.1] at hi
      have hin : i = n := by simpa using hi
      subst hin
      refine wpOp_value hon (hwn _) hv ?_
      have := wpAny_of_seq (md := md) (Q' := Q) rest (i + 1) (listed'.setIfInBounds i true) _ w' hrest (by rw [hg]; exact hB.2) hl
      rw [hg] at this
      exact this
    · obtain ⟨hjn, oj, u, hoj, hsj, Hj⟩ := H.2 j (ready_mono hj hj0)
      obtain ⟨hjun, oj', hoj', hall⟩ := mem_ready.1 hj
      obtain rfl : oj' = oj := Option.some.inj (hoj'.symm.trans hoj)
      have hnot : ∀ e ∈ oj'.after, Region.binds md e = true → e.on ≠ 0 := fun e he hb heq => by
        have h1 := hall e he hb
        rw [heq, getD_both (mem_ready.1 hr).1] at h1
        cases h1
      obtain ⟨h1, h2, h3⟩ := Oper.apart_spec (hfree j oj' hoj hj0 hjun hnot)
      have k1 : Steady P ops S oj' u a := steady_same hsj (execOp_put oj' (fun cs b => hsel j oj' cs b hoj) a o0.dst v0 h1).symm (wanted_put oj' a o0.dst v0 h1).symm
      refine steady_op hoj k1 hS fun w' hS' => ?_
      refine ih (listed.setIfInBounds j true) (a.put oj'.dst u) (inv.set hj hjn) (fun k ok hk hki hun hno => ?_) (ready_mono hr (Ne.symm hj0)) (by rw [wanted_put o0 a oj'.dst u h3]; exact hw) (fun w => ?_) ?_ w' hS'
      · refine hfree k ok hk hki ?_ hno
        by_cases hjk : j = k
        · subst hjk; exact hjun
        · rw [getD_set_ne true hjk] at hun; exact hun
      · rw [execOp_put o0 (fun cs b => hsel 0 o0 cs b h0) a oj'.dst u h3]; exact hp w
      · rw [Array.setIfInBounds_comm _ _ hj0, ← Act.put_comm a v0 u h2]
        exact Hj
def lexAppB (md : Region.Mode) (ops : Array Oper) (n : Nat) : Bool :=
  Region.noSelect ops && decide (n + 1 < ops.size) && sink1B md ops n && Region.chainB md ops n && Region.waitsFor md ops (n + 1) 0 &&
    (Region.ready md ops (Array.replicate ops.size false)).contains 0 && Region.free md ops (Array.replicate ops.size false) 0 &&
    Region.lexHead md ops (ops.size - n) (n - 1) 1 ((Array.replicate ops.size false).setIfInBounds 0 true)
theorem wp_region_AP {id : Nat} {Q : Exit → Act → World → Prop} {a : Act} {w : World} {l : List Oper} (n : Nat) {o0 on : Oper} {hd rest : List Oper} {v0 : Value} (S : World → Prop) (hm : P.follows .mixedOrders = true) (hB : lexAppB .any l.toArray n = true) (hS : S w.drew)
    (hl0 : l.take n = o0 :: hd) (hln : l.drop n = on :: rest) (hap : o0.apart l.toArray on = true) (hwn : ∀ a, Region.wanted on (yielded l.toArray a) = true)
    (hw0 : Region.wanted o0 (yielded l.toArray a.tmps) = true) (hp : ∀ w, (execOp a.eval o0).run P w = .ok (.value v0) w)
    (h : wpH P l.toArray S (fun a' => ∀ W, S W → TailV P l.toArray Q on rest a' W) hd (a.put o0.dst v0)) : (Code.region id l.toArray true).wp P Q a w := by
  simp only [lexAppB, Bool.and_eq_true, decide_eq_true_eq] at hB
  obtain ⟨⟨⟨⟨⟨⟨⟨hsel, hn⟩, hs⟩, hc⟩, hw1⟩, hr0⟩, hf0⟩, hlex⟩ := hB
  have hn' : n + 1 < l.length := by simpa using hn
  have hn0 : n ≠ 0 := by
    intro h0
    subst h0
    simp at hl0
  have htl : (l.take n).length = n := by simp; omega
  have hhd : hd.length = n - 1 := by
    have := congrArg List.length hl0
    simp at this
    omega
  have h0i : l.toArray[0]? = some o0 := by
    have h0 : (l.take n)[0]? = some o0 := by rw [hl0]; rfl
    have hlt : 0 < n := by omega
    simpa [List.getElem?_take, hlt] using h0
  have hoi : l.toArray[n]? = some on := by
    have h0 : (l.drop n)[0]? = some on := by rw [hln]; rfl
    simpa [List.getElem?_drop] using h0
  have hrest : ∀ j, rest[j]? = l.toArray[n + 1 + j]? := fun j => by
    have h0 : (l.drop n)[j + 1]? = rest[j]? := by rw [hln]; rfl
    rw [← h0]
    simp [List.getElem?_drop]
    congr 1
    omega
  have hrl : rest.length = l.toArray.size - n - 1 := by
    have := congrArg List.length hln
    simp at this ⊢
    omega
  have inv0 : HeadInv .any l.toArray n (Array.replicate l.toArray.size false) :=
    ⟨by simp, fun j oj _ hl => (by rw [getD_replicate_false] at hl; cases hl), fun t _ ht => getD_in (by simpa using ht) (getD_replicate_false _ _)⟩
  have hr0' : 0 ∈ Region.ready .any l.toArray (Array.replicate l.toArray.size false) := by simpa using hr0
  have H := wpAnyS_lex1 (md := .any) (g := l.toArray.size - n) hsel hs hc (by omega) hd 1 _ _ (fun j hj => by
    have h0 : (l.take n)[j + 1]? = hd[j]? := by rw [hl0]; rfl
    rw [← h0]
    have hlt : j + 1 < n := by omega
    simp [List.getElem?_take, hlt, Nat.add_comm 1 j]) (by omega) (by omega) (inv0.set hr0' (by omega)) (by rw [hhd]; exact hlex) h
  refine wp_region_any hm ?_
  have hg1 : l.toArray.size - n = rest.length + 1 := by rw [hrl]; omega
  rw [hg1] at H
  have := wpAny_lazy (md := .any) (Q := Q) h0i hoi hn0 hrest rfl (Region.noSelect_spec hsel) hap hw1 hc hn (fun a => hwn a.tmps) hd.length _ a inv0 (Region.free_spec h0i hf0) hr0' hw0 hp H w.drew hS
  rw [hhd, show n - 1 + 1 + (rest.length + 1) = l.toArray.size by rw [hrl]; omega] at this
  exact this
end
end Go.Proofs.Ytjkfdcjfoliboaa

