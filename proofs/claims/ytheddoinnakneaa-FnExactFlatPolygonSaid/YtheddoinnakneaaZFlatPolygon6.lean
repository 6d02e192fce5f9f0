/- joined: Wm2 Wn0 Wq2 U5 U6 Wn1 Tbq Rz -/
import Derived.Test.YtheddoinnakneaaZFlatPolygon5
import Derived.BigRegion
import Derived.OwnWalk
import Derived.Laws.Cover1
/- contract: all told directions of a width that is not too great, the model -/
namespace Go.Proofs.Ytheddoinnakneaa
open Go.ChangeShapes Go.WideShapes Go.ChangeAt Go.RowKit Go.Joins
set_option linter.unusedVariables false
set_option linter.unusedSimpArgs false
set_option maxRecDepth 4000
theorem own_baseM {w : World} {base base' : Nat} {e : TypeId} {size : Nat} {v : Value} {n : Nat} {xs : List Value} (h : w.ownsRow base e size v n xs) (hb : base' ≤ base) : w.ownsRow base' e size v n xs := by
  obtain ⟨h1, h2⟩ := h
  rcases h2 with h2 | ⟨g, cap, cur, hv, hg, r⟩
  · exact ⟨h1, .inl h2⟩
  · exact ⟨h1, .inr ⟨g, cap, cur, hv, by omega, r⟩⟩
theorem prM_base {w : World} {base base' : Nat} {q : List Nat} {m : List (Int × Int)} (h : PrM w base q m) (hb : base' ≤ base) : PrM w base' q m :=
  ⟨h.len, h.nod, fun i b p h1 h2 => ⟨Nat.le_trans hb (h.at_ i b p h1 h2).1, (h.at_ i b p h1 h2).2⟩⟩
set_option maxRecDepth 100000 in
set_option maxHeartbeats 16000000 in
theorem wiAll_any (A : Option Addr) (c : Nat) (l : List (Int × Int)) (most : Nat) (w : World) (hmo : most ≤ 80) (hg : Good l) (hR : Rd w w.heap.size A l) :
    Calls Try.prog 59 #[.slice A l.length c, .int .i64 (most : Int)] w fun e w' => (∃ v, e = .returned v ∧ RowM w' w.heap.size v (dirD (wdL l) (subP (vx l 1) (vx l 0)) (subP (vx l 2) (vx l 0)) most)) ∧ Below w.heap.size w w' := by
  have hf := hg.few
  have HB := base_model hg
  have hW0 := wiWidth_any
  have KW := Lib.hid (fun u v W (h1 : -12800 ≤ u) (h2 : u ≤ 12800) (h3 : -12800 ≤ v) (h4 : v ≤ 12800) (hb : Below w.heap.size w W) => wiWidth_any A c l u v W (by omega) (by omega) (by omega) (by omega) hg (rd_more (rd_below hR hb (Nat.le_refl _)) hb.size))
  obtain ⟨b, off, rfl, hb, HC⟩ := pts_of (by omega) hR
  have pb : ∀ i, i < l.length → (-40 ≤ (vx l i).1 ∧ (vx l i).1 ≤ 40) ∧ (-40 ≤ (vx l i).2 ∧ (vx l i).2 ≤ 40) := fun i hi => by
    have := hg.pegs i hi
    unfold isPg isPegB at this
    simp only [Bool.and_eq_true, decide_eq_true_eq] at this
    omega
  obtain ⟨⟨a1, a2⟩, a3, a4⟩ := pb 0 (by omega)
  obtain ⟨⟨a5, a6⟩, a7, a8⟩ := pb 1 (by omega)
  obtain ⟨⟨a9, a10⟩, a11, a12⟩ := pb 2 (by omega)
  have HX : Hid (∀ W, Below w.heap.size w W → b < W.heap.size ∧ (W.cell? ⟨b, off, none⟩ = some (.int .i64 (vx l 0).1) ∧ W.cell? ⟨b, off + 1, none⟩ = some (.int .i64 (vx l 0).2)) ∧ (W.cell? ⟨b, off + 2, none⟩ = some (.int .i64 (vx l 1).1) ∧ W.cell? ⟨b, off + 2 + 1, none⟩ = some (.int .i64 (vx l 1).2)) ∧ (W.cell? ⟨b, off + 4, none⟩ = some (.int .i64 (vx l 2).1) ∧ W.cell? ⟨b, off + 4 + 1, none⟩ = some (.int .i64 (vx l 2).2))) := Lib.hid (fun W hW => by
    have x := HC.out W hW 0 (by omega)
    have y := HC.out W hW 1 (by omega)
    have z := HC.out W hW 2 (by omega)
    exact ⟨Nat.lt_of_lt_of_le hb hW.size, x, y, z⟩)
  have HP : Hid (subP (vx l 1) (vx l 0) = ((vx l 1).1 - (vx l 0).1, (vx l 1).2 - (vx l 0).2) ∧ subP (vx l 2) (vx l 0) = ((vx l 2).1 - (vx l 0).1, (vx l 2).2 - (vx l 0).2)) := Lib.hid ⟨rfl, rfl⟩
  have hd := HB.d
  rw [HP.out.1, HP.out.2] at hd HB ⊢
  generalize (vx l 0).1 = x0 at *
  generalize (vx l 0).2 = y0 at *
  generalize (vx l 1).1 = x1 at *
  generalize (vx l 1).2 = y1 at *
  generalize (vx l 2).1 = x2 at *
  generalize (vx l 2).2 = y2 at *
  have r1 : IntKind.i64.wrap (x1 - x0) = x1 - x0 := IntWalk.i64_in _ (by omega)
  have r2 : IntKind.i64.wrap (y1 - y0) = y1 - y0 := IntWalk.i64_in _ (by omega)
  have r3 : IntKind.i64.wrap (x2 - x0) = x2 - x0 := IntWalk.i64_in _ (by omega)
  have r4 : IntKind.i64.wrap (y2 - y0) = y2 - y0 := IntWalk.i64_in _ (by omega)
  have bp1 : -80 ≤ x1 - x0 ∧ x1 - x0 ≤ 80 := by omega
  have bp2 : -80 ≤ y1 - y0 ∧ y1 - y0 ≤ 80 := by omega
  have bq1 : -80 ≤ x2 - x0 ∧ x2 - x0 ≤ 80 := by omega
  have bq2 : -80 ≤ y2 - y0 ∧ y2 - y0 ≤ 80 := by omega
  have h1n : (1 : Int) < (l.length : Int) := by omega
  have h2n : (2 : Int) < (l.length : Int) := by omega
  have h0n : (0 : Int) < (l.length : Int) := by omega
  have g0n : 0 < l.length := by omega
  have g1n : 1 < l.length := by omega
  have g2n : 2 < l.length := by omega
  have hw : Hid (wdL l = wdL l) := Lib.hid rfl
  have HWd : Hid (∀ u v, hiW l u v l.length - loW l u v l.length = wdL l u v) := Lib.hid (fun u v => rfl)
  clear hR hg hf pb HC hW0 HP hb a1 a2 a3 a4 a5 a6 a7 a8 a9 a10 a11 a12
  generalize hp1 : x1 - x0 = P1 at *
  generalize hp2 : y1 - y0 = P2 at *
  generalize hq1 : x2 - x0 = Q1 at *
  generalize hq2 : y2 - y0 = Q2 at *
  have HS := Lib.hid (And.intro (And.intro hp1 hp2) (And.intro hq1 hq2))
  generalize hN : l.length = n at *
  clear hN hw
  obtain ⟨bx, X0, X1, X2⟩ := HX.out w (Below.refl _ _)
  obtain ⟨c0, c1⟩ := X0
  obtain ⟨c2, c3⟩ := X1
  clear X2
  go_enter Try.func59, Try.ntmps59
  go_wp2_with fail
  refine wp_region_AL 19 (w) (obj := .cells #[.int .i64 0, .int .i64 0] 56) (by kernel_rfl) (by kernel_rfl) (by repeat (first | exact Below.refl _ _ | apply Below.drew)) rfl (fun _ => by rfl) (fun _ _ => by first | rfl | go_simp) ?_
  simp only [List.take_succ_cons, List.take_zero, List.drop_succ_cons, List.drop_zero]
  first | refine wpR_skip (by rfl) ?_ | (refine wpR_text (v := ?_) (by rfl) (fun W k1 => ?_) ?_; rotate_left; (obtain ⟨hc1, hf1⟩ := bcell k1;  go_simp; refine comes_v ?_; exact Below.refl _ _))
  (try simp only [Act.put, List.setIfInBounds_toArray, List.set_cons_zero, List.set_cons_succ])
  first | refine wpR_skip (by rfl) ?_ | (refine wpR_text (v := ?_) (by rfl) (fun W k1 => ?_) ?_; rotate_left; (obtain ⟨hc1, hf1⟩ := bcell k1;  go_simp; refine comes_v ?_; exact Below.refl _ _))
  (try simp only [Act.put, List.setIfInBounds_toArray, List.set_cons_zero, List.set_cons_succ])
  first | refine wpR_skip (by rfl) ?_ | (refine wpR_text (v := ?_) (by rfl) (fun W k1 => ?_) ?_; rotate_left; (obtain ⟨hc1, hf1⟩ := bcell k1;  go_simp; refine comes_v ?_; exact Below.refl _ _))
  (try simp only [Act.put, List.setIfInBounds_toArray, List.set_cons_zero, List.set_cons_succ])
  first | refine wpR_skip (by rfl) ?_ | (refine wpR_text (v := ?_) (by rfl) (fun W k1 => ?_) ?_; rotate_left; (obtain ⟨hc1, hf1⟩ := bcell k1;  go_simp; refine comes_v ?_; exact Below.refl _ _))
  (try simp only [Act.put, List.setIfInBounds_toArray, List.set_cons_zero, List.set_cons_succ])
  first | refine wpR_skip (by rfl) ?_ | (refine wpR_text (v := ?_) (by rfl) (fun W k1 => ?_) ?_; rotate_left; (obtain ⟨hc1, hf1⟩ := bcell k1;  go_simp; refine comes_v ?_; exact Below.refl _ _))
  (try simp only [Act.put, List.setIfInBounds_toArray, List.set_cons_zero, List.set_cons_succ])
  first | refine wpR_skip (by rfl) ?_ | (refine wpR_text (v := ?_) (by rfl) (fun W k1 => ?_) ?_; rotate_left; (obtain ⟨hc1, hf1⟩ := bcell k1;  go_simp; refine comes_v ?_; exact Below.refl _ _))
  (try simp only [Act.put, List.setIfInBounds_toArray, List.set_cons_zero, List.set_cons_succ])
  first | refine wpR_skip (by rfl) ?_ | (refine wpR_text (v := ?_) (by rfl) (fun W k1 => ?_) ?_; rotate_left; (obtain ⟨hc1, hf1⟩ := bcell k1;  go_simp; refine comes_v ?_; exact Below.refl _ _))
  (try simp only [Act.put, List.setIfInBounds_toArray, List.set_cons_zero, List.set_cons_succ])
  first | refine wpR_skip (by rfl) ?_ | (refine wpR_text (v := ?_) (by rfl) (fun W k1 => ?_) ?_; rotate_left; (obtain ⟨hc1, hf1⟩ := bcell k1;  go_simp; refine comes_v ?_; exact Below.refl _ _))
  (try simp only [Act.put, List.setIfInBounds_toArray, List.set_cons_zero, List.set_cons_succ])
  first | refine wpR_skip (by rfl) ?_ | (refine wpR_text (v := ?_) (by rfl) (fun W k1 => ?_) ?_; rotate_left; (obtain ⟨hc1, hf1⟩ := bcell k1;  go_simp; refine comes_v ?_; exact Below.refl _ _))
  (try simp only [Act.put, List.setIfInBounds_toArray, List.set_cons_zero, List.set_cons_succ])
  first | refine wpR_skip (by rfl) ?_ | (refine wpR_text (v := ?_) (by rfl) (fun W k1 => ?_) ?_; rotate_left; (obtain ⟨hc1, hf1⟩ := bcell k1;  go_simp; refine comes_v ?_; exact Below.refl _ _))
  (try simp only [Act.put, List.setIfInBounds_toArray, List.set_cons_zero, List.set_cons_succ])
  first | refine wpR_skip (by rfl) ?_ | (refine wpR_text (v := ?_) (by rfl) (fun W k1 => ?_) ?_; rotate_left; (obtain ⟨hc1, hf1⟩ := bcell k1;  go_simp; refine comes_v ?_; exact Below.refl _ _))
  (try simp only [Act.put, List.setIfInBounds_toArray, List.set_cons_zero, List.set_cons_succ])
  first | refine wpR_skip (by rfl) ?_ | (refine wpR_text (v := ?_) (by rfl) (fun W k1 => ?_) ?_; rotate_left; (obtain ⟨hc1, hf1⟩ := bcell k1;  go_simp; refine comes_v ?_; exact Below.refl _ _))
  (try simp only [Act.put, List.setIfInBounds_toArray, List.set_cons_zero, List.set_cons_succ])
  first | refine wpR_skip (by rfl) ?_ | (refine wpR_text (v := ?_) (by rfl) (fun W k1 => ?_) ?_; rotate_left; (obtain ⟨hc1, hf1⟩ := bcell k1;  go_simp; refine comes_v ?_; exact Below.refl _ _))
  (try simp only [Act.put, List.setIfInBounds_toArray, List.set_cons_zero, List.set_cons_succ])
  first | refine wpR_skip (by rfl) ?_ | (refine wpR_text (v := ?_) (by rfl) (fun W k1 => ?_) ?_; rotate_left; (obtain ⟨hc1, hf1⟩ := bcell k1;  go_simp; refine comes_v ?_; exact Below.refl _ _))
  (try simp only [Act.put, List.setIfInBounds_toArray, List.set_cons_zero, List.set_cons_succ])
  first | refine wpR_skip (by rfl) ?_ | (refine wpR_text (v := ?_) (by rfl) (fun W k1 => ?_) ?_; rotate_left; (obtain ⟨hc1, hf1⟩ := bcell k1;  go_simp; refine comes_v ?_; exact Below.refl _ _))
  (try simp only [Act.put, List.setIfInBounds_toArray, List.set_cons_zero, List.set_cons_succ])
  first | refine wpR_skip (by rfl) ?_ | (refine wpR_text (v := ?_) (by rfl) (fun W k1 => ?_) ?_; rotate_left; (obtain ⟨hc1, hf1⟩ := bcell k1;  go_simp; refine comes_v ?_; exact Below.refl _ _))
  (try simp only [Act.put, List.setIfInBounds_toArray, List.set_cons_zero, List.set_cons_succ])
  first | refine wpR_skip (by rfl) ?_ | (refine wpR_text (v := ?_) (by rfl) (fun W k1 => ?_) ?_; rotate_left; (obtain ⟨hc1, hf1⟩ := bcell k1;  go_simp; refine comes_v ?_; exact Below.refl _ _))
  (try simp only [Act.put, List.setIfInBounds_toArray, List.set_cons_zero, List.set_cons_succ])
  first | refine wpR_skip (by rfl) ?_ | (refine wpR_text (v := ?_) (by rfl) (fun W k1 => ?_) ?_; rotate_left; (obtain ⟨hc1, hf1⟩ := bcell k1;  go_simp; refine comes_v ?_; exact Below.refl _ _))
  (try simp only [Act.put, List.setIfInBounds_toArray, List.set_cons_zero, List.set_cons_succ])
  first | refine wpR_skip (by rfl) ?_ | (refine wpR_text (v := ?_) (by rfl) (fun W k1 => ?_) ?_; rotate_left; (obtain ⟨hc1, hf1⟩ := bcell k1;  go_simp; refine comes_v ?_; exact Below.refl _ _))
  (try simp only [Act.put, List.setIfInBounds_toArray, List.set_cons_zero, List.set_cons_succ])
  refine wpR_nil ?_
  intro W1 W k1 k2
  (try simp only [Act.put, List.setIfInBounds_toArray, List.set_cons_zero, List.set_cons_succ])
  clear c0 c1 c2 c3 bx
  have NA := bx2_new W1 0 0 56
  have BA0 := Below.alloc k1 k1.size (.cells #[.int .i64 0, .int .i64 0] 56)
  have BA := BA0.trans (k2.mono BA0.size)
  have NB := bx2_below NA k2
  have hlo := k1.size
  obtain ⟨gA, hgA⟩ : ∃ g, g = W1.heap.size := ⟨_, rfl⟩
  rw [← hgA] at NB hlo ⊢
  have NS := Lib.hid (bx2_store NB P1 P2)
  have BS := Lib.hid ((BA.setCell (p := ⟨gA, 0, none⟩) hlo (.int .i64 P1)).setCell (p := ⟨gA, 1, none⟩) hlo (.int .i64 P2))
  have z0 := NB.z
  have z1 := NB.c0
  have z2 := NB.c1
  have z3 := NB.fz 0
  have z4 := NB.fz 1
  clear NA NB BA0 BA k1 k2 hgA
  go_wp2_with fail
  have NA1 := NS.out
  have NA1B := BS.out
  clear NS BS z0 z1 z2 z3 z4
  generalize ((W.setCell ⟨gA, 0, none⟩ (.int .i64 P1)).setCell ⟨gA, 1, none⟩ (.int .i64 P2)) = NA1W at NA1 NA1B ⊢
  have HNA := Lib.hid NA1
  clear NA1 hlo
  obtain ⟨bx, ⟨c0, c1⟩, _, c4, c5⟩ := HX.out NA1W NA1B
  refine wp_region_AL 19 (NA1W) (obj := .cells #[.int .i64 0, .int .i64 0] 56) (by kernel_rfl) (by kernel_rfl) (by repeat (first | exact Below.refl _ _ | apply Below.drew)) rfl (fun _ => by rfl) (fun _ _ => by first | rfl | go_simp) ?_
  simp only [List.take_succ_cons, List.take_zero, List.drop_succ_cons, List.drop_zero]
  first | refine wpR_skip (by rfl) ?_ | (refine wpR_text (v := ?_) (by rfl) (fun W k1 => ?_) ?_; rotate_left; (obtain ⟨hc1, hf1⟩ := bcell k1;  go_simp; refine comes_v ?_; exact Below.refl _ _))
  (try simp only [Act.put, List.setIfInBounds_toArray, List.set_cons_zero, List.set_cons_succ])
  first | refine wpR_skip (by rfl) ?_ | (refine wpR_text (v := ?_) (by rfl) (fun W k1 => ?_) ?_; rotate_left; (obtain ⟨hc1, hf1⟩ := bcell k1;  go_simp; refine comes_v ?_; exact Below.refl _ _))
  (try simp only [Act.put, List.setIfInBounds_toArray, List.set_cons_zero, List.set_cons_succ])
  first | refine wpR_skip (by rfl) ?_ | (refine wpR_text (v := ?_) (by rfl) (fun W k1 => ?_) ?_; rotate_left; (obtain ⟨hc1, hf1⟩ := bcell k1;  go_simp; refine comes_v ?_; exact Below.refl _ _))
  (try simp only [Act.put, List.setIfInBounds_toArray, List.set_cons_zero, List.set_cons_succ])
  first | refine wpR_skip (by rfl) ?_ | (refine wpR_text (v := ?_) (by rfl) (fun W k1 => ?_) ?_; rotate_left; (obtain ⟨hc1, hf1⟩ := bcell k1;  go_simp; refine comes_v ?_; exact Below.refl _ _))
  (try simp only [Act.put, List.setIfInBounds_toArray, List.set_cons_zero, List.set_cons_succ])
  first | refine wpR_skip (by rfl) ?_ | (refine wpR_text (v := ?_) (by rfl) (fun W k1 => ?_) ?_; rotate_left; (obtain ⟨hc1, hf1⟩ := bcell k1;  go_simp; refine comes_v ?_; exact Below.refl _ _))
  (try simp only [Act.put, List.setIfInBounds_toArray, List.set_cons_zero, List.set_cons_succ])
  first | refine wpR_skip (by rfl) ?_ | (refine wpR_text (v := ?_) (by rfl) (fun W k1 => ?_) ?_; rotate_left; (obtain ⟨hc1, hf1⟩ := bcell k1;  go_simp; refine comes_v ?_; exact Below.refl _ _))
  (try simp only [Act.put, List.setIfInBounds_toArray, List.set_cons_zero, List.set_cons_succ])
  first | refine wpR_skip (by rfl) ?_ | (refine wpR_text (v := ?_) (by rfl) (fun W k1 => ?_) ?_; rotate_left; (obtain ⟨hc1, hf1⟩ := bcell k1;  go_simp; refine comes_v ?_; exact Below.refl _ _))
  (try simp only [Act.put, List.setIfInBounds_toArray, List.set_cons_zero, List.set_cons_succ])
  first | refine wpR_skip (by rfl) ?_ | (refine wpR_text (v := ?_) (by rfl) (fun W k1 => ?_) ?_; rotate_left; (obtain ⟨hc1, hf1⟩ := bcell k1;  go_simp; refine comes_v ?_; exact Below.refl _ _))
  (try simp only [Act.put, List.setIfInBounds_toArray, List.set_cons_zero, List.set_cons_succ])
  first | refine wpR_skip (by rfl) ?_ | (refine wpR_text (v := ?_) (by rfl) (fun W k1 => ?_) ?_; rotate_left; (obtain ⟨hc1, hf1⟩ := bcell k1;  go_simp; refine comes_v ?_; exact Below.refl _ _))
  (try simp only [Act.put, List.setIfInBounds_toArray, List.set_cons_zero, List.set_cons_succ])
  first | refine wpR_skip (by rfl) ?_ | (refine wpR_text (v := ?_) (by rfl) (fun W k1 => ?_) ?_; rotate_left; (obtain ⟨hc1, hf1⟩ := bcell k1;  go_simp; refine comes_v ?_; exact Below.refl _ _))
  (try simp only [Act.put, List.setIfInBounds_toArray, List.set_cons_zero, List.set_cons_succ])
  first | refine wpR_skip (by rfl) ?_ | (refine wpR_text (v := ?_) (by rfl) (fun W k1 => ?_) ?_; rotate_left; (obtain ⟨hc1, hf1⟩ := bcell k1;  go_simp; refine comes_v ?_; exact Below.refl _ _))
  (try simp only [Act.put, List.setIfInBounds_toArray, List.set_cons_zero, List.set_cons_succ])
  first | refine wpR_skip (by rfl) ?_ | (refine wpR_text (v := ?_) (by rfl) (fun W k1 => ?_) ?_; rotate_left; (obtain ⟨hc1, hf1⟩ := bcell k1;  go_simp; refine comes_v ?_; exact Below.refl _ _))
  (try simp only [Act.put, List.setIfInBounds_toArray, List.set_cons_zero, List.set_cons_succ])
  first | refine wpR_skip (by rfl) ?_ | (refine wpR_text (v := ?_) (by rfl) (fun W k1 => ?_) ?_; rotate_left; (obtain ⟨hc1, hf1⟩ := bcell k1;  go_simp; refine comes_v ?_; exact Below.refl _ _))
  (try simp only [Act.put, List.setIfInBounds_toArray, List.set_cons_zero, List.set_cons_succ])
  first | refine wpR_skip (by rfl) ?_ | (refine wpR_text (v := ?_) (by rfl) (fun W k1 => ?_) ?_; rotate_left; (obtain ⟨hc1, hf1⟩ := bcell k1;  go_simp; refine comes_v ?_; exact Below.refl _ _))
  (try simp only [Act.put, List.setIfInBounds_toArray, List.set_cons_zero, List.set_cons_succ])
  first | refine wpR_skip (by rfl) ?_ | (refine wpR_text (v := ?_) (by rfl) (fun W k1 => ?_) ?_; rotate_left; (obtain ⟨hc1, hf1⟩ := bcell k1;  go_simp; refine comes_v ?_; exact Below.refl _ _))
  (try simp only [Act.put, List.setIfInBounds_toArray, List.set_cons_zero, List.set_cons_succ])
  first | refine wpR_skip (by rfl) ?_ | (refine wpR_text (v := ?_) (by rfl) (fun W k1 => ?_) ?_; rotate_left; (obtain ⟨hc1, hf1⟩ := bcell k1;  go_simp; refine comes_v ?_; exact Below.refl _ _))
  (try simp only [Act.put, List.setIfInBounds_toArray, List.set_cons_zero, List.set_cons_succ])
  first | refine wpR_skip (by rfl) ?_ | (refine wpR_text (v := ?_) (by rfl) (fun W k1 => ?_) ?_; rotate_left; (obtain ⟨hc1, hf1⟩ := bcell k1;  go_simp; refine comes_v ?_; exact Below.refl _ _))
  (try simp only [Act.put, List.setIfInBounds_toArray, List.set_cons_zero, List.set_cons_succ])
  first | refine wpR_skip (by rfl) ?_ | (refine wpR_text (v := ?_) (by rfl) (fun W k1 => ?_) ?_; rotate_left; (obtain ⟨hc1, hf1⟩ := bcell k1;  go_simp; refine comes_v ?_; exact Below.refl _ _))
  (try simp only [Act.put, List.setIfInBounds_toArray, List.set_cons_zero, List.set_cons_succ])
  first | refine wpR_skip (by rfl) ?_ | (refine wpR_text (v := ?_) (by rfl) (fun W k1 => ?_) ?_; rotate_left; (obtain ⟨hc1, hf1⟩ := bcell k1;  go_simp; refine comes_v ?_; exact Below.refl _ _))
  (try simp only [Act.put, List.setIfInBounds_toArray, List.set_cons_zero, List.set_cons_succ])
  refine wpR_nil ?_
  intro W1 W k1 k2
  (try simp only [Act.put, List.setIfInBounds_toArray, List.set_cons_zero, List.set_cons_succ])
  clear c0 c1 c4 c5 bx
  have NA := bx2_new W1 0 0 56
  have BA0 := Below.alloc k1 k1.size (.cells #[.int .i64 0, .int .i64 0] 56)
  have BA := BA0.trans (k2.mono BA0.size)
  have NB := bx2_below NA k2
  have hlo := k1.size
  have HNAW := bx2_below HNA.out BA
  have hza := HNA.out.z
  obtain ⟨gB, hgB⟩ : ∃ g, g = W1.heap.size := ⟨_, rfl⟩
  rw [← hgB] at NB hlo ⊢
  have NS := Lib.hid (bx2_store NB Q1 Q2)
  have BS := Lib.hid ((BA.setCell (p := ⟨gB, 0, none⟩) hlo (.int .i64 Q1)).setCell (p := ⟨gB, 1, none⟩) hlo (.int .i64 Q2))
  have z0 := NB.z
  have z1 := NB.c0
  have z2 := NB.c1
  have z3 := NB.fz 0
  have z4 := NB.fz 1
  have gAB : gA ≠ gB := by omega
  have gBA : gB ≠ gA := Ne.symm gAB
  have u0 := HNAW.c0
  have u1 := HNAW.c1
  have uz := HNAW.z
  have m1 := mul_bd (x := P1) (y := Q2) (m := 80) (n := 80) bp1.1 bp1.2 bq2.1 bq2.2
  have m2 := mul_bd (x := P2) (y := Q1) (m := 80) (n := 80) bp2.1 bp2.2 bq1.1 bq1.2
  have e1 : IntKind.i64.wrap (P1 * Q2) = P1 * Q2 := IntWalk.i64_in _ (by omega)
  have e2 : IntKind.i64.wrap (P2 * Q1) = P2 * Q1 := IntWalk.i64_in _ (by omega)
  have e3 : IntKind.i64.wrap (P1 * Q2 - P2 * Q1) = P1 * Q2 - P2 * Q1 := IntWalk.i64_in _ (by omega)
  have hdd : P1 * Q2 - P2 * Q1 ≠ 0 := hd
  have mb : -12800 ≤ P1 * Q2 - P2 * Q1 ∧ P1 * Q2 - P2 * Q1 ≤ 12800 := by omega
  have em : IntKind.i64.wrap (-(most : Int)) = -(most : Int) := IntWalk.i64_in _ (by omega)
  clear NA NB BA0 BA k1 k2 hgB m1 m2 HNAW hza
  go_wp2_with fail
  have HNB := NS.out
  have BS1 := BS.out
  clear NS BS z0 z1 z2 z3 z4 u0 u1 uz hlo
  generalize ((W.setCell ⟨gB, 0, none⟩ (.int .i64 Q1)).setCell ⟨gB, 1, none⟩ (.int .i64 Q2)) = w3 at HNB BS1 ⊢
  have HNA2 := Lib.hid (bx2_below HNA.out BS1)
  have HNB := Lib.hid HNB
  have B3 := NA1B.trans (BS1.mono NA1B.size)
  clear HNA BS1 NA1B e1 e2 e3 em
  have hds : detP (P1, P2) (Q1, Q2) ≠ 0 := hd
  have HXY : Hid (∀ m n, soX (P1, P2) (Q1, Q2) m n = m * Q2 - n * P2 ∧ soY (P1, P2) (Q1, Q2) m n = n * P1 - m * Q1) := Lib.hid (fun m n => ⟨rfl, rfl⟩)
  have HBD := Lib.hid (fun m n h1 h2 => so_bd (p := (P1, P2)) (q := (Q1, Q2)) (m := m) (n := n) ⟨bp1, bp2⟩ ⟨bq1, bq2⟩ h1 h2)
  have HNo := Lib.hid (fun m n h => dirO_none (W := wdL l) (most := (most : Int)) (p := (P1, P2)) (q := (Q1, Q2)) (m := m) (n := n) h)
  have HSo := Lib.hid (fun m n u v h1 h2 hu hv => dirO_some (W := wdL l) (most := (most : Int)) (p := (P1, P2)) (q := (Q1, Q2)) (m := m) (n := n) (u := u) (v := v) h1 h2 hu hv)
  have HU := Lib.hid (fun i j => dirU_succ (wdL l) most (P1, P2) (Q1, Q2) i j)
  have HU0 := Lib.hid (fun i => dirU_zero (wdL l) most (P1, P2) (Q1, Q2) i)
  have HUA := Lib.hid (fun i => dirU_all (wdL l) most (P1, P2) (Q1, Q2) i)
  have HUN := Lib.hid (fun i j (hj : j < 2 * most + 1) t ht => dirU_new (W := wdL l) (most := most) (p := (P1, P2)) (q := (Q1, Q2)) hds (i := i) hj (t := t) ht)
  have HUD := Lib.hid (fun i j (hj : j ≤ 2 * most + 1) => srt_sorted (dirU_nodup (W := wdL l) (most := most) (p := (P1, P2)) (q := (Q1, Q2)) hds (i := i) hj))
  have HUL := Lib.hid (fun i j (hi : i ≤ 2 * most + 1) (hj : j ≤ 2 * most + 1) => dirU_len (W := wdL l) (p := (P1, P2)) (q := (Q1, Q2)) hmo hi hj)
  obtain ⟨t0, hi0, hz0, hz1, hz2⟩ := info_parts2 ints_info
  have HI := Lib.hid (And.intro hi0 (And.intro hz0 (And.intro hz1 hz2)))
  clear hi0 hz0 hz1 hz2
  have HA0 : Hid (srt (dirAll (wdL l) most (P1, P2) (Q1, Q2) 0) = []) := Lib.hid rfl
  have HDD : Hid (dirD (wdL l) (P1, P2) (Q1, Q2) most = srt (dirAll (wdL l) most (P1, P2) (Q1, Q2) (2 * most + 1))) := Lib.hid rfl
  rw [show detP (P1, P2) (Q1, Q2) = P1 * Q2 - P2 * Q1 from rfl] at HNo HSo
  generalize dirAll (wdL l) most (P1, P2) (Q1, Q2) = SA at *
  generalize dirU (wdL l) most (P1, P2) (Q1, Q2) = SU at *
  generalize dirO (wdL l) (most : Int) (P1, P2) (Q1, Q2) = SO at *
  generalize soX (P1, P2) (Q1, Q2) = fX at *
  generalize soY (P1, P2) (Q1, Q2) = fY at *
  generalize P1 * Q2 - P2 * Q1 = D at *
  clear hd hds HX HS hp1 hp2 hq1 hq2 r1 r2 r3 r4 h1n h2n h0n g0n g1n g2n
  go_loopg [8, 9] (2 * most + 1) (fun g o mm wr => ∃ (i : Nat) (vv : Value), vv = o ∧ i ≤ 2 * most + 1 ∧ g = 2 * most + 1 - i ∧ mm = .int .i64 ((i : Int) - (most : Int)) ∧ Below w3.heap.size w3 wr ∧ Hid (RowM wr w3.heap.size vv (srt (SA i))))
  case atStart => exact ⟨0, _, rfl, Nat.zero_le _, rfl, by rw [show ((0 : Nat) : Int) - (most : Int) = -(most : Int) by omega], Below.refl _ _, Lib.hid (by rw [HA0.out]; exact rowM_nil _ _)⟩
  case round =>
    obtain ⟨i, vv, rfl, hi, hgi, rfl, hB, hr⟩ := hrel
    rename World => wo
    have HGI := Lib.hid hgi
    clear hgi
    have em : IntKind.i64.wrap (-(most : Int)) = -(most : Int) := IntWalk.i64_in _ (by omega)
    by_cases hlt : i < 2 * most + 1
    · have d1 : (i : Int) - (most : Int) ≤ (most : Int) := by omega
      have hr1 : Hid (RowM wo w3.heap.size vv (srt (SU i 0))) := Lib.hid (by rw [HU0.out]; exact hr.out)
      clear hr
      go_wp2_with fail
      go_loopg [8, 10] (2 * most + 1) (fun g o mm wr => ∃ (j : Nat) (vv : Value), vv = o ∧ j ≤ 2 * most + 1 ∧ g = 2 * most + 1 - j ∧ mm = .int .i64 ((j : Int) - (most : Int)) ∧ Below w3.heap.size w3 wr ∧ Hid (RowM wr w3.heap.size vv (srt (SU i j))))
      case atStart => exact ⟨0, _, rfl, Nat.zero_le _, rfl, by rw [show ((0 : Nat) : Int) - (most : Int) = -(most : Int) by omega], hB, hr1⟩
      case round =>
        clear hr1 hB vv
        obtain ⟨j, vv, rfl, hj, hgj, rfl, hB, hr⟩ := hrel
        rename World => wi
        have HGJ := Lib.hid hgj
        clear hgj
        by_cases hlj : j < 2 * most + 1
        · have d2 : (j : Int) - (most : Int) ≤ (most : Int) := by omega
          have hm : -80 ≤ (i : Int) - (most : Int) ∧ (i : Int) - (most : Int) ≤ 80 := by omega
          have hn : -80 ≤ (j : Int) - (most : Int) ∧ (j : Int) - (most : Int) ≤ 80 := by omega
          obtain ⟨⟨⟨b1, b2⟩, b3, b4⟩, ⟨b5, b6⟩, b7, b8⟩ := HBD.out _ _ hm hn
          try simp only at b1 b2 b3 b4 b5 b6 b7 b8
          obtain ⟨x1, x2⟩ := HXY.out ((i : Int) - (most : Int)) ((j : Int) - (most : Int))
          have HN1 := Lib.hid (HNo.out ((i : Int) - (most : Int)) ((j : Int) - (most : Int)))
          have HS1 := Lib.hid (HSo.out ((i : Int) - (most : Int)) ((j : Int) - (most : Int)))
          have HU1 := Lib.hid (HU.out i j)
          have HW1 := Lib.hid (HUN.out i j hlj)
          have HD1 := Lib.hid (HUD.out i j (by omega))
          have t1 : IntKind.i64.wrap (((i : Int) - (most : Int)) * Q2) = ((i : Int) - (most : Int)) * Q2 := IntWalk.i64_in _ (by omega)
          have t2 : IntKind.i64.wrap (((j : Int) - (most : Int)) * P2) = ((j : Int) - (most : Int)) * P2 := IntWalk.i64_in _ (by omega)
          have t3 : IntKind.i64.wrap (((j : Int) - (most : Int)) * P1) = ((j : Int) - (most : Int)) * P1 := IntWalk.i64_in _ (by omega)
          have t4 : IntKind.i64.wrap (((i : Int) - (most : Int)) * Q1) = ((i : Int) - (most : Int)) * Q1 := IntWalk.i64_in _ (by omega)
          have t5 : IntKind.i64.wrap (((i : Int) - (most : Int)) * Q2 - ((j : Int) - (most : Int)) * P2) = ((i : Int) - (most : Int)) * Q2 - ((j : Int) - (most : Int)) * P2 := IntWalk.i64_in _ (by omega)
          have t6 : IntKind.i64.wrap (((j : Int) - (most : Int)) * P1 - ((i : Int) - (most : Int)) * Q1) = ((j : Int) - (most : Int)) * P1 - ((i : Int) - (most : Int)) * Q1 := IntWalk.i64_in _ (by omega)
          have NA := bx2_below HNA2.out hB
          have NB := bx2_below HNB.out hB
          have u0 := NA.c0
          have u1 := NA.c1
          have uz := NA.z
          have v0 := NB.c0
          have v1 := NB.c1
          have vz := NB.z
          clear NA NB hm hn
          go_wp2_with fail
          refine wp_region_B (fun W => Below wi.heap.size wi W) (by kernel_rfl) (by repeat (first | exact Below.refl _ _ | apply Below.drew)) ?_
          first | refine wpB_skip 0 rfl (by kernel_rfl) (by kernel_rfl) (by kernel_rfl) (by rfl) ?_ | (refine wpB_text 0 (v := ?_) rfl (by kernel_rfl) (by kernel_rfl) (by kernel_rfl) (by rfl) (fun W hW => ?_) ?_; rotate_left; (have k1 := hW; obtain ⟨hc1, hf1⟩ := bcell k1; go_simp; refine comes_v ?_; exact k1))
          (try simp only [Act.put, List.setIfInBounds_toArray, List.set_cons_zero, List.set_cons_succ])
          first | refine wpB_skip 1 rfl (by kernel_rfl) (by kernel_rfl) (by kernel_rfl) (by rfl) ?_ | (refine wpB_text 1 (v := ?_) rfl (by kernel_rfl) (by kernel_rfl) (by kernel_rfl) (by rfl) (fun W hW => ?_) ?_; rotate_left; (have k1 := hW; obtain ⟨hc1, hf1⟩ := bcell k1; go_simp; refine comes_v ?_; exact k1))
          (try simp only [Act.put, List.setIfInBounds_toArray, List.set_cons_zero, List.set_cons_succ])
          first | refine wpB_skip 2 rfl (by kernel_rfl) (by kernel_rfl) (by kernel_rfl) (by rfl) ?_ | (refine wpB_text 2 (v := ?_) rfl (by kernel_rfl) (by kernel_rfl) (by kernel_rfl) (by rfl) (fun W hW => ?_) ?_; rotate_left; (have k1 := hW; obtain ⟨hc1, hf1⟩ := bcell k1; go_simp; refine comes_v ?_; exact k1))
          (try simp only [Act.put, List.setIfInBounds_toArray, List.set_cons_zero, List.set_cons_succ])
          first | refine wpB_skip 3 rfl (by kernel_rfl) (by kernel_rfl) (by kernel_rfl) (by rfl) ?_ | (refine wpB_text 3 (v := ?_) rfl (by kernel_rfl) (by kernel_rfl) (by kernel_rfl) (by rfl) (fun W hW => ?_) ?_; rotate_left; (have k1 := hW; obtain ⟨hc1, hf1⟩ := bcell k1; go_simp; refine comes_v ?_; exact k1))
          (try simp only [Act.put, List.setIfInBounds_toArray, List.set_cons_zero, List.set_cons_succ])
          first | refine wpB_skip 4 rfl (by kernel_rfl) (by kernel_rfl) (by kernel_rfl) (by rfl) ?_ | (refine wpB_text 4 (v := ?_) rfl (by kernel_rfl) (by kernel_rfl) (by kernel_rfl) (by rfl) (fun W hW => ?_) ?_; rotate_left; (have k1 := hW; obtain ⟨hc1, hf1⟩ := bcell k1; go_simp; refine comes_v ?_; exact k1))
          (try simp only [Act.put, List.setIfInBounds_toArray, List.set_cons_zero, List.set_cons_succ])
          first | refine wpB_skip 5 rfl (by kernel_rfl) (by kernel_rfl) (by kernel_rfl) (by rfl) ?_ | (refine wpB_text 5 (v := ?_) rfl (by kernel_rfl) (by kernel_rfl) (by kernel_rfl) (by rfl) (fun W hW => ?_) ?_; rotate_left; (have k1 := hW; obtain ⟨hc1, hf1⟩ := bcell k1; go_simp; refine comes_v ?_; exact k1))
          (try simp only [Act.put, List.setIfInBounds_toArray, List.set_cons_zero, List.set_cons_succ])
          first | refine wpB_skip 6 rfl (by kernel_rfl) (by kernel_rfl) (by kernel_rfl) (by rfl) ?_ | (refine wpB_text 6 (v := ?_) rfl (by kernel_rfl) (by kernel_rfl) (by kernel_rfl) (by rfl) (fun W hW => ?_) ?_; rotate_left; (have k1 := hW; obtain ⟨hc1, hf1⟩ := bcell k1; go_simp; refine comes_v ?_; exact k1))
          (try simp only [Act.put, List.setIfInBounds_toArray, List.set_cons_zero, List.set_cons_succ])
          first | refine wpB_skip 7 rfl (by kernel_rfl) (by kernel_rfl) (by kernel_rfl) (by rfl) ?_ | (refine wpB_text 7 (v := ?_) rfl (by kernel_rfl) (by kernel_rfl) (by kernel_rfl) (by rfl) (fun W hW => ?_) ?_; rotate_left; (have k1 := hW; obtain ⟨hc1, hf1⟩ := bcell k1; go_simp; refine comes_v ?_; exact k1))
          (try simp only [Act.put, List.setIfInBounds_toArray, List.set_cons_zero, List.set_cons_succ])
          first | refine wpB_skip 8 rfl (by kernel_rfl) (by kernel_rfl) (by kernel_rfl) (by rfl) ?_ | (refine wpB_text 8 (v := ?_) rfl (by kernel_rfl) (by kernel_rfl) (by kernel_rfl) (by rfl) (fun W hW => ?_) ?_; rotate_left; (have k1 := hW; obtain ⟨hc1, hf1⟩ := bcell k1; go_simp; refine comes_v ?_; exact k1))
          (try simp only [Act.put, List.setIfInBounds_toArray, List.set_cons_zero, List.set_cons_succ])
          first | refine wpB_skip 9 rfl (by kernel_rfl) (by kernel_rfl) (by kernel_rfl) (by rfl) ?_ | (refine wpB_text 9 (v := ?_) rfl (by kernel_rfl) (by kernel_rfl) (by kernel_rfl) (by rfl) (fun W hW => ?_) ?_; rotate_left; (have k1 := hW; obtain ⟨hc1, hf1⟩ := bcell k1; go_simp; refine comes_v ?_; exact k1))
          (try simp only [Act.put, List.setIfInBounds_toArray, List.set_cons_zero, List.set_cons_succ])
          first | refine wpB_skip 10 rfl (by kernel_rfl) (by kernel_rfl) (by kernel_rfl) (by rfl) ?_ | (refine wpB_text 10 (v := ?_) rfl (by kernel_rfl) (by kernel_rfl) (by kernel_rfl) (by rfl) (fun W hW => ?_) ?_; rotate_left; (have k1 := hW; obtain ⟨hc1, hf1⟩ := bcell k1; go_simp; refine comes_v ?_; exact k1))
          (try simp only [Act.put, List.setIfInBounds_toArray, List.set_cons_zero, List.set_cons_succ])
          first | refine wpB_skip 11 rfl (by kernel_rfl) (by kernel_rfl) (by kernel_rfl) (by rfl) ?_ | (refine wpB_text 11 (v := ?_) rfl (by kernel_rfl) (by kernel_rfl) (by kernel_rfl) (by rfl) (fun W hW => ?_) ?_; rotate_left; (have k1 := hW; obtain ⟨hc1, hf1⟩ := bcell k1; go_simp; refine comes_v ?_; exact k1))
          (try simp only [Act.put, List.setIfInBounds_toArray, List.set_cons_zero, List.set_cons_succ])
          first | refine wpB_skip 12 rfl (by kernel_rfl) (by kernel_rfl) (by kernel_rfl) (by rfl) ?_ | (refine wpB_text 12 (v := ?_) rfl (by kernel_rfl) (by kernel_rfl) (by kernel_rfl) (by rfl) (fun W hW => ?_) ?_; rotate_left; (have k1 := hW; obtain ⟨hc1, hf1⟩ := bcell k1; go_simp; refine comes_v ?_; exact k1))
          (try simp only [Act.put, List.setIfInBounds_toArray, List.set_cons_zero, List.set_cons_succ])
          first | refine wpB_skip 13 rfl (by kernel_rfl) (by kernel_rfl) (by kernel_rfl) (by rfl) ?_ | (refine wpB_text 13 (v := ?_) rfl (by kernel_rfl) (by kernel_rfl) (by kernel_rfl) (by rfl) (fun W hW => ?_) ?_; rotate_left; (have k1 := hW; obtain ⟨hc1, hf1⟩ := bcell k1; go_simp; refine comes_v ?_; exact k1))
          (try simp only [Act.put, List.setIfInBounds_toArray, List.set_cons_zero, List.set_cons_succ])
          first | refine wpB_skip 14 rfl (by kernel_rfl) (by kernel_rfl) (by kernel_rfl) (by rfl) ?_ | (refine wpB_text 14 (v := ?_) rfl (by kernel_rfl) (by kernel_rfl) (by kernel_rfl) (by rfl) (fun W hW => ?_) ?_; rotate_left; (have k1 := hW; obtain ⟨hc1, hf1⟩ := bcell k1; go_simp; refine comes_v ?_; exact k1))
          (try simp only [Act.put, List.setIfInBounds_toArray, List.set_cons_zero, List.set_cons_succ])
          first | refine wpB_skip 15 rfl (by kernel_rfl) (by kernel_rfl) (by kernel_rfl) (by rfl) ?_ | (refine wpB_text 15 (v := ?_) rfl (by kernel_rfl) (by kernel_rfl) (by kernel_rfl) (by rfl) (fun W hW => ?_) ?_; rotate_left; (have k1 := hW; obtain ⟨hc1, hf1⟩ := bcell k1; go_simp; refine comes_v ?_; exact k1))
          (try simp only [Act.put, List.setIfInBounds_toArray, List.set_cons_zero, List.set_cons_succ])
          first | refine wpB_skip 16 rfl (by kernel_rfl) (by kernel_rfl) (by kernel_rfl) (by rfl) ?_ | (refine wpB_text 16 (v := ?_) rfl (by kernel_rfl) (by kernel_rfl) (by kernel_rfl) (by rfl) (fun W hW => ?_) ?_; rotate_left; (have k1 := hW; obtain ⟨hc1, hf1⟩ := bcell k1; go_simp; refine comes_v ?_; exact k1))
          (try simp only [Act.put, List.setIfInBounds_toArray, List.set_cons_zero, List.set_cons_succ])
          first | refine wpB_skip 17 rfl (by kernel_rfl) (by kernel_rfl) (by kernel_rfl) (by rfl) ?_ | (refine wpB_text 17 (v := ?_) rfl (by kernel_rfl) (by kernel_rfl) (by kernel_rfl) (by rfl) (fun W hW => ?_) ?_; rotate_left; (have k1 := hW; obtain ⟨hc1, hf1⟩ := bcell k1; go_simp; refine comes_v ?_; exact k1))
          (try simp only [Act.put, List.setIfInBounds_toArray, List.set_cons_zero, List.set_cons_succ])
          first | refine wpB_skip 18 rfl (by kernel_rfl) (by kernel_rfl) (by kernel_rfl) (by rfl) ?_ | (refine wpB_text 18 (v := ?_) rfl (by kernel_rfl) (by kernel_rfl) (by kernel_rfl) (by rfl) (fun W hW => ?_) ?_; rotate_left; (have k1 := hW; obtain ⟨hc1, hf1⟩ := bcell k1; go_simp; refine comes_v ?_; exact k1))
          (try simp only [Act.put, List.setIfInBounds_toArray, List.set_cons_zero, List.set_cons_succ])
          first | refine wpB_skip 19 rfl (by kernel_rfl) (by kernel_rfl) (by kernel_rfl) (by rfl) ?_ | (refine wpB_text 19 (v := ?_) rfl (by kernel_rfl) (by kernel_rfl) (by kernel_rfl) (by rfl) (fun W hW => ?_) ?_; rotate_left; (have k1 := hW; obtain ⟨hc1, hf1⟩ := bcell k1; go_simp; refine comes_v ?_; exact k1))
          (try simp only [Act.put, List.setIfInBounds_toArray, List.set_cons_zero, List.set_cons_succ])
          refine wpB_done (by kernel_rfl) ?_ _
          intro W hW; have k1 := hW
          rename World => W0
          have B4 := hB.trans (k1.mono hB.size)
          have R4 := Lib.hid (rowM_below hr.out k1 (Nat.le_refl _))
          have hbx : -12800 ≤ ((i : Int) - (most : Int)) * Q2 - ((j : Int) - (most : Int)) * P2 ∧ ((i : Int) - (most : Int)) * Q2 - ((j : Int) - (most : Int)) * P2 ≤ 12800 := by omega
          have hby : -12800 ≤ ((j : Int) - (most : Int)) * P1 - ((i : Int) - (most : Int)) * Q1 ∧ ((j : Int) - (most : Int)) * P1 - ((i : Int) - (most : Int)) * Q1 ≤ 12800 := by omega
          rw [← x1] at hbx ⊢
          rw [← x2] at hby ⊢
          clear k1 u0 u1 uz v0 v1 vz hB hr t1 t2 t3 t4 t5 t6 b1 b2 b3 b4 b5 b6 b7 b8 x1 x2
          generalize fX ((i : Int) - (most : Int)) ((j : Int) - (most : Int)) = x at *
          generalize fY ((i : Int) - (most : Int)) ((j : Int) - (most : Int)) = y at *
          generalize SO ((i : Int) - (most : Int)) ((j : Int) - (most : Int)) = so at *
          have q1 := tdiv_bd (d := D) hbx.1 hbx.2
          have q2 := tdiv_bd (d := D) hby.1 hby.2
          have q3 := tmod_bd x D hdd
          have q4 := tmod_bd y D hdd
          have z1 : IntKind.i64.wrap (x.tmod D) = x.tmod D := IntWalk.i64_in _ (by omega)
          have z2 : IntKind.i64.wrap (y.tmod D) = y.tmod D := IntWalk.i64_in _ (by omega)
          have z3 : IntKind.i64.wrap (x.tdiv D) = x.tdiv D := IntWalk.i64_in _ (by omega)
          have z4 : IntKind.i64.wrap (y.tdiv D) = y.tdiv D := IntWalk.i64_in _ (by omega)
          have hdd3 : ¬ D = 0 := hdd
          clear q3 q4
          by_cases hx : x.tmod D = 0
          rotate_left
          · have HE := Lib.hid (HN1.out (Or.inl hx))
            clear HN1 HS1 HW1 HD1
            go_wp2_with fail
            go_roundg (2 * most + 1 - (j + 1))
            case measure => have := HGJ.out; omega
            case rel => exact ⟨j + 1, _, rfl, by omega, rfl, by first | go_num | (congr 1; omega), B4, Lib.hid (by rw [HU1.out, HE.out, List.append_nil]; exact R4.out)⟩
          by_cases hy : y.tmod D = 0
          rotate_left
          · have HE := Lib.hid (HN1.out (Or.inr hy))
            clear HN1 HS1 HW1 HD1
            go_wp2_with fail
            go_roundg (2 * most + 1 - (j + 1))
            case measure => have := HGJ.out; omega
            case rel => exact ⟨j + 1, _, rfl, by omega, rfl, by first | go_num | (congr 1; omega), B4, Lib.hid (by rw [HU1.out, HE.out, List.append_nil]; exact R4.out)⟩
          have HS2 := Lib.hid (HS1.out (x.tdiv D) (y.tdiv D) hx hy rfl rfl)
          clear HN1 HS1
          go_upto_region 13 with fail
          refine wp_region_B (fun W => Below W0.heap.size W0 W) (by kernel_rfl) (by repeat (first | exact Below.refl _ _ | apply Below.drew)) ?_
          first | refine wpB_skip 0 rfl (by kernel_rfl) (by kernel_rfl) (by kernel_rfl) (by rfl) ?_ | (refine wpB_text 0 (v := ?_) rfl (by kernel_rfl) (by kernel_rfl) (by kernel_rfl) (by rfl) (fun W hW => ?_) ?_; rotate_left; (have k1 := hW; obtain ⟨hc1, hf1⟩ := bcell k1; go_simp; refine comes_v ?_; exact k1))
          (try simp only [Act.put, List.setIfInBounds_toArray, List.set_cons_zero, List.set_cons_succ])
          first | refine wpB_skip 1 rfl (by kernel_rfl) (by kernel_rfl) (by kernel_rfl) (by rfl) ?_ | (refine wpB_text 1 (v := ?_) rfl (by kernel_rfl) (by kernel_rfl) (by kernel_rfl) (by rfl) (fun W hW => ?_) ?_; rotate_left; (have k1 := hW; obtain ⟨hc1, hf1⟩ := bcell k1; go_simp; refine comes_v ?_; exact k1))
          (try simp only [Act.put, List.setIfInBounds_toArray, List.set_cons_zero, List.set_cons_succ])
          first | refine wpB_skip 2 rfl (by kernel_rfl) (by kernel_rfl) (by kernel_rfl) (by rfl) ?_ | (refine wpB_text 2 (v := ?_) rfl (by kernel_rfl) (by kernel_rfl) (by kernel_rfl) (by rfl) (fun W hW => ?_) ?_; rotate_left; (have k1 := hW; obtain ⟨hc1, hf1⟩ := bcell k1; go_simp; refine comes_v ?_; exact k1))
          (try simp only [Act.put, List.setIfInBounds_toArray, List.set_cons_zero, List.set_cons_succ])
          first | refine wpB_skip 3 rfl (by kernel_rfl) (by kernel_rfl) (by kernel_rfl) (by rfl) ?_ | (refine wpB_text 3 (v := ?_) rfl (by kernel_rfl) (by kernel_rfl) (by kernel_rfl) (by rfl) (fun W hW => ?_) ?_; rotate_left; (have k1 := hW; obtain ⟨hc1, hf1⟩ := bcell k1; go_simp; refine comes_v ?_; exact k1))
          (try simp only [Act.put, List.setIfInBounds_toArray, List.set_cons_zero, List.set_cons_succ])
          first | refine wpB_skip 4 rfl (by kernel_rfl) (by kernel_rfl) (by kernel_rfl) (by rfl) ?_ | (refine wpB_text 4 (v := ?_) rfl (by kernel_rfl) (by kernel_rfl) (by kernel_rfl) (by rfl) (fun W hW => ?_) ?_; rotate_left; (have k1 := hW; obtain ⟨hc1, hf1⟩ := bcell k1; go_simp; refine comes_v ?_; exact k1))
          (try simp only [Act.put, List.setIfInBounds_toArray, List.set_cons_zero, List.set_cons_succ])
          first | refine wpB_skip 5 rfl (by kernel_rfl) (by kernel_rfl) (by kernel_rfl) (by rfl) ?_ | (refine wpB_text 5 (v := ?_) rfl (by kernel_rfl) (by kernel_rfl) (by kernel_rfl) (by rfl) (fun W hW => ?_) ?_; rotate_left; (have k1 := hW; obtain ⟨hc1, hf1⟩ := bcell k1; go_simp; refine comes_v ?_; exact k1))
          (try simp only [Act.put, List.setIfInBounds_toArray, List.set_cons_zero, List.set_cons_succ])
          first | refine wpB_skip 6 rfl (by kernel_rfl) (by kernel_rfl) (by kernel_rfl) (by rfl) ?_ | (refine wpB_text 6 (v := ?_) rfl (by kernel_rfl) (by kernel_rfl) (by kernel_rfl) (by rfl) (fun W hW => ?_) ?_; rotate_left; (have k1 := hW; obtain ⟨hc1, hf1⟩ := bcell k1; go_simp; refine comes_v ?_; exact k1))
          (try simp only [Act.put, List.setIfInBounds_toArray, List.set_cons_zero, List.set_cons_succ])
          first | refine wpB_skip 7 rfl (by kernel_rfl) (by kernel_rfl) (by kernel_rfl) (by rfl) ?_ | (refine wpB_text 7 (v := ?_) rfl (by kernel_rfl) (by kernel_rfl) (by kernel_rfl) (by rfl) (fun W hW => ?_) ?_; rotate_left; (have k1 := hW; obtain ⟨hc1, hf1⟩ := bcell k1; go_simp; refine comes_v ?_; exact k1))
          (try simp only [Act.put, List.setIfInBounds_toArray, List.set_cons_zero, List.set_cons_succ])
          refine wpB_done (by kernel_rfl) ?_ _
          intro W hW; have k1 := hW
          rename World => W5
          have B5 := B4.trans (k1.mono B4.size)
          have R5 := Lib.hid (rowM_below R4.out k1 (Nat.le_refl _))
          clear k1 R4 B4 z1 z2 z3 z4 hbx hby hx hy
          generalize x.tdiv D = u at *
          generalize y.tdiv D = v at *
          by_cases hu : u < 0
          · have HE := Lib.hid (show so = [] by rw [HS2.out, told_less hu]; rfl)
            clear HS2 HW1 HD1
            go_wp2_with fail
            go_roundg (2 * most + 1 - (j + 1))
            case measure => have := HGJ.out; omega
            case rel => exact ⟨j + 1, _, rfl, by omega, rfl, by first | go_num | (congr 1; omega), B5, Lib.hid (by rw [HU1.out, HE.out, List.append_nil]; exact R5.out)⟩
          by_cases hv : u = 0 ∧ v < 1
          · obtain ⟨rfl, hv⟩ := hv
            have HE := Lib.hid (show so = [] by rw [HS2.out, told_zero hv]; rfl)
            clear HS2 HW1 HD1
            go_wp2_with fail
            go_roundg (2 * most + 1 - (j + 1))
            case measure => have := HGJ.out; omega
            case rel => exact ⟨j + 1, _, rfl, by omega, rfl, by first | go_num | (congr 1; omega), B5, Lib.hid (by rw [HU1.out, HE.out, List.append_nil]; exact R5.out)⟩
          have KG := Lib.hid (fun W => pgCommon_any u v W (by omega) (by omega) (by omega) (by omega))
          have KW1 := Lib.hid (fun W hb => KW.out u v W q1.1 q1.2 q2.1 q2.2 hb)
          rw [HWd.out] at KW1
          obtain ⟨gg, hgg⟩ : ∃ gg, gg = Nat.gcd u.natAbs v.natAbs := ⟨_, rfl⟩
          have HT : Hid (toldB u v = decide (gg = 1)) := Lib.hid (by rw [told_gcd hu hv, decide_eq_decide, hgg])
          rw [← hgg] at KG
          clear hgg
          have BW5 := B3.trans (B5.mono B3.size)
          have hcs : (u = 0 ∧ ¬ v < 1) ∨ ¬ u = 0 := by omega
          by_cases hg1 : gg = 1
          rotate_left
          · have HE := Lib.hid (show so = [] by rw [HS2.out, HT.out, decide_eq_false hg1]; rfl)
            have hgi : ¬ (gg : Int) = 1 := by omega
            clear HS2 HW1 HD1 KW1 HT hv
            rcases hcs with ⟨rfl, hv⟩ | hu0
            all_goals
              go_wp2_with fail
              refine (KG.out _).mono ?_; rintro e w6 ⟨rfl, hb6⟩
              have B6 := B5.trans (hb6.mono B5.size)
              have R6 := Lib.hid (rowM_below R5.out hb6 (Nat.le_refl _))
              clear hb6 R5 B5 KG
              go_wp2_with fail
              go_roundg (2 * most + 1 - (j + 1))
              case measure => have := HGJ.out; omega
              case rel => exact ⟨j + 1, _, rfl, by omega, rfl, by first | go_num | (congr 1; omega), B6, Lib.hid (by rw [HU1.out, HE.out, List.append_nil]; exact R6.out)⟩
          by_cases hwd : wdL l u v ≤ (most : Int)
          rotate_left
          · have HE := Lib.hid (show so = [] by rw [HS2.out, decide_eq_false hwd, Bool.and_false]; rfl)
            have hwi : (most : Int) < wdL l u v := by omega
            subst hg1
            clear HS2 HW1 HD1 HT hv hwd
            rcases hcs with ⟨rfl, hv⟩ | hu0
            all_goals
              generalize wdL l _ v = wd at *
              go_wp2_with fail
              refine (KG.out _).mono ?_; rintro e w6 ⟨rfl, hb6⟩
              have B6 := B5.trans (hb6.mono B5.size)
              have R6 := Lib.hid (rowM_below R5.out hb6 (Nat.le_refl _))
              have BW6 := BW5.trans (hb6.mono BW5.size)
              clear hb6 R5 B5 KG BW5
              go_wp2_with fail
              refine (KW1.out _ BW6).mono ?_; rintro e w7 ⟨rfl, hb7⟩
              have B7 := B6.trans (hb7.mono B6.size)
              have R7 := Lib.hid (rowM_below R6.out hb7 (Nat.le_refl _))
              clear hb7 R6 B6 KW1 BW6
              go_wp2_with fail
              go_roundg (2 * most + 1 - (j + 1))
              case measure => have := HGJ.out; omega
              case rel => exact ⟨j + 1, _, rfl, by omega, rfl, by first | go_num | (congr 1; omega), B7, Lib.hid (by rw [HU1.out, HE.out, List.append_nil]; exact R7.out)⟩
          have HE := Lib.hid (show so = [(u, v)] by rw [HS2.out, HT.out, decide_eq_true hg1, decide_eq_true hwd]; rfl)
          have HNW := Lib.hid (HW1.out (u, v) HE.out)
          have HSN : Hid (srt (SU i (j + 1)) = ins (srt (SU i j)) (u, v)) := Lib.hid (by rw [HU1.out, HE.out, srt_snoc])
          have hsl := HUL.out i j (by omega) (by omega)
          rw [← srt_len] at hsl
          subst hg1
          obtain ⟨s, hs⟩ : ∃ s, s = srt (SU i j) := ⟨_, rfl⟩
          rw [← hs] at R5 HNW HSN HD1 hsl
          clear hs HS2 HW1 HT HE
          have hwi : ¬ (most : Int) < wdL l u v := by omega
          have h5 := B5.size
          go_upto_region 14 with fail
          go_cut [137] from 114 to 136 (fun q wx => q = .bool false ∧ Below W5.heap.size W5 wx)
          case first =>
            clear hv hwd
            rcases hcs with ⟨rfl, hv⟩ | hu0
            all_goals
              generalize wdL l _ v = wd at *
              go_wp2_with fail
              refine (KG.out _).mono ?_; rintro e w6 ⟨rfl, hb6⟩
              have BW6 := BW5.trans (hb6.mono BW5.size)
              go_wp2_with fail
              refine (KW1.out _ BW6).mono ?_; rintro e w7 ⟨rfl, hb7⟩
              have B7 := hb6.trans (hb7.mono hb6.size)
              go_wp2_with fail
              go_meet
              case rel =>
                exact ⟨by rw [decide_eq_false (by first | assumption | omega)], B7⟩
          case rest =>
          obtain ⟨rfl, BC⟩ := hcut
          rename World => W6
          have B6 := B5.trans (BC.mono B5.size)
          have R6 := rowM_below R5.out BC (Nat.le_refl _)
          clear R5 B5 BC KG KW1 BW5 hcs hwd hwi hu hv h5
          obtain ⟨q, own, pr⟩ := R6
          have HPR := Lib.hid pr
          obtain ⟨r, hr0⟩ : ∃ r, r = s.length := ⟨_, rfl⟩
          have HLR := Lib.hid hr0.symm
          have hql : q.length = r := by rw [pr.len, hr0]
          rw [← hr0] at own hsl
          have HO := Lib.hid own
          have h6 := B6.size
          clear pr hr0
          rcases own_val own with ⟨hvv, h0⟩ | ⟨g, cap, hvv, hrc, hcm, hgl, hgw⟩
          · subst hvv
            subst h0
            clear own HO HPR HD1 HNW hql
            have hs0 : s = [] := List.eq_nil_of_length_eq_zero HLR.out
            have HSN1 : Hid (srt (SU i (j + 1)) = [(u, v)]) := Lib.hid (by rw [HSN.out, hs0, ins_nil])
            clear HSN hs0 HLR
            go_upto_block 4 with fail
            go_cut [15] (fun qq wx => qq = .int .i64 0 ∧ Below W6.heap.size W6 wx)
            case first =>
              go_wp2_with fail
              go_loopg [15] 0 (fun g2 qq wr => g2 = 0 ∧ qq = .int .i64 0 ∧ Below W6.heap.size W6 wr)
              case atStart => exact ⟨rfl, by first | rfl | go_num, Below.refl _ _⟩
              case round =>
                obtain ⟨_, rfl, hBt⟩ := hrel
                rename World => wt
                go_wp2_with fail
                go_meet
                case rel => exact ⟨rfl, hBt⟩
            case rest =>
            obtain ⟨rfl, BC⟩ := hcut
            rename World => W7
            have B7 := B6.trans (BC.mono B6.size)
            have h73 := B7.size
            clear BC B6 h6
            have own1 : (W7.alloc (.cells #[] 47)).ownsRow W7.heap.size 47 1 (.slice (some ⟨W7.heap.size, 0, none⟩) 0 0) 0 [] := World.ownsRow_lit W7 #[] 0 (Nat.le_refl _) (by decide) rfl
            have B8 := Below.alloc (Below.refl W7.heap.size W7) (Nat.le_refl _) (.cells #[] 47)
            have e8 : (W7.alloc (.cells #[] 47)).heap.size = W7.heap.size + 1 := by simp
            have own9 := (own1.alloc (.cells #[.int .i64 u, .int .i64 v] 3)).alloc (.cells #[.slice (some ⟨W7.heap.size + 1, 0, none⟩) 2 2] 47)
            have h78 := B8.size
            have BW9 : Below W7.heap.size W7 (((W7.alloc (.cells #[] 47)).alloc (.cells #[.int .i64 u, .int .i64 v] 3)).alloc (.cells #[.slice (some ⟨W7.heap.size + 1, 0, none⟩) 2 2] 47)) := Below.alloc (Below.alloc B8 h78 _) (by simp; omega) _
            go_wp2_with (at_builtin; go_loud (refine wpList_append_own _ rfl (.tmp 181) (.tmp 185) 30 rfl W7.heap.size 47 t0 (.slice none 0 0) 1 24 Try.underlying30 HI.out.1 HI.out.2.1 HI.out.2.2.1 HI.out.2.2.2 rfl (by decide) (.slice (some ⟨W7.heap.size, 0, none⟩) 0 0) 0 [] rfl own9 ⟨W7.heap.size + 1 + 1, 0, none⟩ 1 1 [.slice (some ⟨W7.heap.size + 1, 0, none⟩) 2 2] rfl rfl (wm_cells (by go_simp)) (wm_one _ _ _) (by unfold maxLen; omega) (by omega) BW9.size ?_))
            intro v10 w10 own10 hg10 _
            obtain ⟨hp, hl⟩ := pair_new (w := W7.alloc (.cells #[] 47)) (by rw [e8]; exact own9) (by rw [e8]; exact hg10)
            rw [e8] at hp hl
            have B10 := BW9.grown hg10 BW9.size (fun g' hg' => (World.ownsRow.lt own9 g' hg').1)
            have own10' := own_baseM own10 h73
            have HR11 : Hid (RowM w10 w3.heap.size v10 (srt (SU i (j + 1)))) := Lib.hid (by
              rw [HSN1.out]
              exact rowM_one (n := 1) rfl (Nat.le_succ_of_le h73) hp hl (by simpa using own10'))
            have B11 := B7.trans (B10.mono h73)
            clear own9 own1 B8 BW9 hg10 hp hl B10 own10 HSN1 e8
            go_wp2_with (at_builtin; refine wpList_append_own_none rfl (.tmp 187) (.tmp 190) 30 rfl w3.heap.size 47 t0 1 Try.underlying30 HI.out.1 v10 _ _ rfl own10' rfl ?_)
            clear own10'
            go_wp2_with fail
            go_roundg (2 * most + 1 - (j + 1))
            case measure => have := HGJ.out; omega
            case rel => exact ⟨j + 1, v10, rfl, by omega, rfl, by first | go_num | (congr 1; omega), B11, HR11⟩
          · subst hvv
            clear own
            have hcm2 : cap ≤ 9223372036854775807 := by unfold maxLen at hcm; omega
            go_upto_block 4 with fail
            go_cut [15] (fun qq wx => ∃ t : Nat, qq = .int .i64 (t : Int) ∧ t ≤ r ∧ Hid (t = insAt s (u, v)) ∧ Below W6.heap.size W6 wx)
            case first =>
              go_wp2_with fail
              go_loopg [15] r (fun g2 qq wr => ∃ t : Nat, t ≤ r ∧ g2 = t ∧ qq = .int .i64 (t : Int) ∧ Below W6.heap.size W6 wr ∧ Hid (∀ i', t ≤ i' → i' < r → lxB (u, v) (pt s i') = true))
              case atStart => exact ⟨r, Nat.le_refl _, rfl, rfl, Below.refl _ _, Lib.hid (fun i' h1 h2 => absurd h1 (by omega))⟩
              case round =>
                obtain ⟨t, htr, hg2, rfl, hBt, hF⟩ := hrel
                rename World => wt
                have HGT := Lib.hid hg2
                clear hg2
                rcases t with _ | t
                · have hJ : Hid (0 = insAt s (u, v)) := Lib.hid (insAt_back HD1.out HNW.out (Nat.zero_le _) (fun i' h1 h2 => hF.out i' h1 (by rw [← HLR.out]; exact h2)) (Or.inl rfl)).symm
                  go_wp2_with fail
                  go_meet
                  case rel => exact ⟨0, rfl, Nat.zero_le _, hJ, hBt⟩
                · obtain ⟨bq, hq0, hq1, hq2, hq3⟩ := prM_read HPR.out (j := t) (by rw [HLR.out]; omega)
                  have s0 := ((bcell hBt).1 g t hgw).trans ((World.ownsRow.cellAt HO.out t (by omega)).trans (slM_get hq0))
                  have s1 := ((bcell hBt).1 bq 0 hq1).trans hq2
                  have s2 := ((bcell hBt).1 bq 1 hq1).trans hq3
                  have zg := Nat.lt_of_lt_of_le hgw hBt.size
                  have zq := Nat.lt_of_lt_of_le hq1 hBt.size
                  obtain ⟨c1, c2, hce⟩ : ∃ c1 c2, pt s t = (c1, c2) := ⟨_, _, rfl⟩
                  have HCE := Lib.hid hce
                  rw [hce] at s1 s2
                  simp only at s1 s2
                  have hjj : ((t + 1 : Nat) : Int) - 1 = (t : Int) := by omega
                  have hjp : (0 : Int) < ((t + 1 : Nat) : Int) := by omega
                  have hjw : IntKind.i64.wrap (((t + 1 : Nat) : Int) - 1) = (t : Int) := by rw [IntWalk.i64_in _ (by omega)]; omega
                  have hjw2 : IntKind.i64.wrap (t : Int) = (t : Int) := IntWalk.i64_in _ (by omega)
                  have htr2 : (t : Int) < (r : Int) := by omega
                  have htr3 : t < r := by omega
                  clear hq0 hq1 hq2 hq3 hce
                  have HL : Hid (lxB (u, v) (c1, c2) = (decide (u < c1) || (decide (u = c1) && decide (v < c2)))) := Lib.hid rfl
                  have HY : Hid (lxB (u, v) (c1, c2) = true → ∀ i', t ≤ i' → i' < r → lxB (u, v) (pt s i') = true) := Lib.hid (fun h i' h1 h2 => by
                    by_cases hij : i' = t
                    · subst hij; rw [HCE.out]; exact h
                    · exact hF.out i' (by omega) h2)
                  have HNN : Hid (lxB (u, v) (c1, c2) = false → t + 1 = insAt s (u, v)) := Lib.hid (fun h => (insAt_back HD1.out HNW.out (by rw [HLR.out]; exact htr) (fun i' h1 h2 => hF.out i' h1 (by rw [← HLR.out]; exact h2)) (Or.inr (by rw [Nat.add_sub_cancel, HCE.out]; exact h))).symm)
                  by_cases k1 : u < c1
                  · have HY2 := Lib.hid (HY.out (by rw [HL.out, decide_eq_true k1]; rfl))
                    clear HY HNN HL
                    go_wp2_with fail
                    go_roundg t
                    case measure => have := HGT.out; omega
                    case rel => exact ⟨t, by omega, rfl, by first | rfl | go_num, hBt, HY2⟩
                  by_cases k2 : u = c1
                  · by_cases k3 : v < c2
                    · have HY2 := Lib.hid (HY.out (by rw [HL.out, decide_eq_true k2, decide_eq_true k3]; simp))
                      clear HY HNN HL
                      subst k2
                      go_wp2_with fail
                      go_roundg t
                      case measure => have := HGT.out; omega
                      case rel => exact ⟨t, by omega, rfl, by first | rfl | go_num, hBt, HY2⟩
                    · have HY2 := Lib.hid (HNN.out (by rw [HL.out, decide_eq_false k1, decide_eq_false k3]; simp))
                      clear HY HNN HL
                      subst k2
                      go_wp2_with fail
                      go_meet
                      case rel => exact ⟨t + 1, by first | rfl | go_num, htr, HY2, hBt⟩
                  · have HY2 := Lib.hid (HNN.out (by rw [HL.out, decide_eq_false k1, decide_eq_false k2]; rfl))
                    clear HY HNN HL
                    go_wp2_with fail
                    go_meet
                    case rel => exact ⟨t + 1, by first | rfl | go_num, htr, HY2, hBt⟩
            case rest =>
            obtain ⟨t, rfl, htr, hJ, BC⟩ := hcut
            rename World => W7
            have B7 := B6.trans (BC.mono B6.size)
            have O7 := Lib.hid (ownM_below HO.out BC (Nat.le_refl _))
            have P7 := Lib.hid (prM_below HPR.out BC (Nat.le_refl _))
            have h73 := B7.size
            clear HPR HO B6 BC h6 HD1 HNW
            have HFIN : Hid (∀ (W8 W10 W11 : World) (V10 V11 : Value) (n10 : Nat) (xs : List Value), W7.heap.size ≤ W8.heap.size → Below W7.heap.size W7 W10 → W10.heap[W8.heap.size]? = some (.cells #[.int .i64 u, .int .i64 v] 3 (0, 0)) → W8.heap.size < W10.heap.size → W10.ownsRow w3.heap.size 47 1 V10 n10 xs → W10.grownBy W11 V10.ownBlock → W11.ownsRow w3.heap.size 47 1 V11 (t + 1 + (r - t)) ((slM (q.take t) ++ [.slice (some ⟨W8.heap.size, 0, none⟩) 2 2]) ++ slM (q.drop t)) → RowM W11 w3.heap.size V11 (srt (SU i (j + 1)))) := Lib.hid (fun W8 W10 W11 V10 V11 n10 xs h1 h2 h3 h4 h5 h6 h7 => by
              rw [HSN.out]
              unfold ins
              rw [← hJ.out]
              refine rowM_put h73 P7.out (by rw [HLR.out]; exact htr) h1 h2 h3 h4 h5 h6 ?_
              rw [HLR.out, show r + 1 = t + 1 + (r - t) by omega]
              exact h7)
            have HD : Hid (∀ W, Below W7.heap.size W7 W → ∀ j' u', (slM (q.take t))[j']? = some u' → W.cell? ((⟨g, 0, none⟩ : Addr).add j') = some u') := Lib.hid (fun W hW => slM_cells O7.out hW (Nat.le_refl _) hql 0 (fun j' b' hj' => by
              rw [Nat.zero_add]
              rw [List.getElem?_take] at hj'
              split at hj'
              · exact hj'
              · cases hj'))
            have HD2 : Hid (∀ W, Below W7.heap.size W7 W → ∀ j' u', (slM (q.drop t))[j']? = some u' → W.cell? ((⟨g, t, none⟩ : Addr).add j') = some u') := Lib.hid (fun W hW => slM_cells O7.out hW (Nat.le_refl _) hql t (fun j' b' hj' => by
              rw [List.getElem?_drop] at hj'
              exact hj'))
            have hl1 : (slM (q.take t)).length = t * 1 := by rw [slM_len, List.length_take]; omega
            have hl2 : (slM (q.drop t)).length = (r - t) * 1 := by rw [slM_len, List.length_drop]; omega
            have hy1 := slM_one (q.take t)
            have hy2 := slM_one (q.drop t)
            have hy0 : t = r → slM (q.drop t) = [] := fun e => by rw [List.drop_of_length_le (by omega)]; rfl
            clear hJ HSN HLR P7 O7
            generalize slM (q.take t) = ys at *
            generalize slM (q.drop t) = zs at *
            clear hql
            have own1 : (W7.alloc (.cells #[] 47)).ownsRow W7.heap.size 47 1 (.slice (some ⟨W7.heap.size, 0, none⟩) 0 0) 0 [] := World.ownsRow_lit W7 #[] 0 (Nat.le_refl _) (by decide) rfl
            have B8 := Below.alloc (Below.refl W7.heap.size W7) (Nat.le_refl _) (.cells #[] 47)
            have htc : (t : Int) ≤ (cap : Int) := by omega
            have htr3 : (t : Int) ≤ (r : Int) := by omega
            go_wp2_with (at_builtin; go_loud (refine wpList_append_own _ rfl (.tmp 177) (.tmp 180) 30 rfl W7.heap.size 47 t0 (.slice none 0 0) 1 24 Try.underlying30 HI.out.1 HI.out.2.1 HI.out.2.2.1 HI.out.2.2.2 rfl (by decide) _ 0 [] rfl own1 ⟨g, 0, none⟩ t cap ys rfl hl1 (HD.out _ B8) hy1 (by unfold maxLen; omega) (by omega) B8.size ?_))
            intro v8 w8 own8 hg8 _
            have B9 := B8.grown hg8 B8.size (fun g' hg' => (World.ownsRow.lt own1 g' hg').1)
            have h78 := B9.size
            have own8' : w8.ownsRow W7.heap.size 47 1 v8 t ys := by simpa using own8
            have own9 := (own8'.alloc (.cells #[.int .i64 u, .int .i64 v] 3)).alloc (.cells #[.slice (some ⟨w8.heap.size, 0, none⟩) 2 2] 47)
            have BW9 : Below W7.heap.size W7 ((w8.alloc (.cells #[.int .i64 u, .int .i64 v] 3)).alloc (.cells #[.slice (some ⟨w8.heap.size, 0, none⟩) 2 2] 47)) := Below.alloc (Below.alloc B9 h78 _) (by simp; omega) _
            clear own1 B8 hg8 own8 own8' B9 HD hl1 hy1
            go_wp2_with (at_builtin; go_loud (refine wpList_append_own _ rfl (.tmp 181) (.tmp 185) 30 rfl W7.heap.size 47 t0 (.slice none 0 0) 1 24 Try.underlying30 HI.out.1 HI.out.2.1 HI.out.2.2.1 HI.out.2.2.2 rfl (by decide) v8 t ys rfl own9 ⟨w8.heap.size + 1, 0, none⟩ 1 1 [.slice (some ⟨w8.heap.size, 0, none⟩) 2 2] rfl rfl (wm_cells (by go_simp)) (wm_one _ _ _) (by unfold maxLen; omega) (by omega) BW9.size ?_))
            intro v10 w10 own10 hg10 _
            obtain ⟨hp, hl⟩ := pair_new own9 hg10
            have B10 := BW9.grown hg10 BW9.size (fun g' hg' => (World.ownsRow.lt own9 g' hg').1)
            have own10' := own_baseM own10 h73
            have HF := Lib.hid (fun W11 V11 h6 h7 => HFIN.out w8 w10 W11 v10 V11 _ _ h78 B10 hp hl own10' h6 h7)
            have B103 := B7.trans (B10.mono h73)
            have hz10 := B103.size
            have HDZ := Lib.hid (HD2.out w10 B10)
            have hn10 : t + 1 ≤ r + 1 := by omega
            clear own9 BW9 hg10 hp hl HFIN own10 B10 HD2 B7
            generalize ys ++ [Value.slice (some ⟨w8.heap.size, 0, none⟩) 2 2] = xs at *
            generalize t + 1 = n10 at *
            rcases Nat.lt_or_ge t r with hj' | hj'
            · have e1 : ¬ (cap : Int) = (t : Int) := by omega
              have e2 : ¬ cap = t := by omega
              go_wp2_with (at_builtin; refine wpList_append_own _ rfl (.tmp 187) (.tmp 190) 30 rfl w3.heap.size 47 t0 (.slice none 0 0) 1 24 Try.underlying30 HI.out.1 HI.out.2.1 HI.out.2.2.1 HI.out.2.2.2 rfl (by decide) v10 n10 xs rfl own10' ⟨g, t, none⟩ (r - t) (cap - t) zs rfl hl2 HDZ.out hy2 (by unfold maxLen; omega) (by omega) hz10 ?_)
              intro v11 w11 own11 hg11 _
              have HR11 := Lib.hid (HF.out w11 v11 hg11 (own11))
              have B11 := B103.grown hg11 hz10 (fun g' hg' => (World.ownsRow.lt own10' g' hg').1)
              clear own11 hg11 own10'
              go_wp2_with fail
              go_roundg (2 * most + 1 - (j + 1))
              case measure => have := HGJ.out; omega
              case rel => exact ⟨j + 1, v11, rfl, by omega, rfl, by first | go_num | (congr 1; omega), B11, HR11⟩
            · have hjr : t = r := by omega
              subst hjr
              have hdn := hy0 rfl
              subst hdn
              rw [Nat.sub_self] at HF
              by_cases hcj : cap = t
              · have e1 : (cap : Int) = (t : Int) := by omega
                go_wp2_with (at_builtin; refine wpList_append_own _ rfl (.tmp 187) (.tmp 190) 30 rfl w3.heap.size 47 t0 (.slice none 0 0) 1 24 Try.underlying30 HI.out.1 HI.out.2.1 HI.out.2.2.1 HI.out.2.2.2 rfl (by decide) v10 n10 xs rfl own10' ⟨g, 0, none⟩ 0 _ [] rfl (by simp) (by intro i u hi; simp at hi) (by intro u hu; simp at hu) (by unfold maxLen; omega) (by omega) hz10 ?_)
                intro v11 w11 own11 hg11 _
                have HR11 := Lib.hid (HF.out w11 v11 hg11 (by first | exact own11 | simpa using own11))
                have B11 := B103.grown hg11 hz10 (fun g' hg' => (World.ownsRow.lt own10' g' hg').1)
                clear own11 hg11 own10'
                go_wp2_with fail
                go_roundg (2 * most + 1 - (j + 1))
                case measure => have := HGJ.out; omega
                case rel => exact ⟨j + 1, v11, rfl, by omega, rfl, by first | go_num | (congr 1; omega), B11, HR11⟩
              · have e1 : ¬ (cap : Int) = (t : Int) := by omega
                go_wp2_with (at_builtin; refine wpList_append_own _ rfl (.tmp 187) (.tmp 190) 30 rfl w3.heap.size 47 t0 (.slice none 0 0) 1 24 Try.underlying30 HI.out.1 HI.out.2.1 HI.out.2.2.1 HI.out.2.2.2 rfl (by decide) v10 n10 xs rfl own10' ⟨g, t, none⟩ 0 _ [] rfl (by simp) (by intro i u hi; simp at hi) (by intro u hu; simp at hu) (by unfold maxLen; omega) (by omega) hz10 ?_)
                intro v11 w11 own11 hg11 _
                have HR11 := Lib.hid (HF.out w11 v11 hg11 (by first | exact own11 | simpa using own11))
                have B11 := B103.grown hg11 hz10 (fun g' hg' => (World.ownsRow.lt own10' g' hg').1)
                clear own11 hg11 own10'
                go_wp2_with fail
                go_roundg (2 * most + 1 - (j + 1))
                case measure => have := HGJ.out; omega
                case rel => exact ⟨j + 1, v11, rfl, by omega, rfl, by first | go_num | (congr 1; omega), B11, HR11⟩
        · obtain rfl : j = 2 * most + 1 := by omega
          have d3 : ¬ (((2 * most + 1 : Nat) : Int) - (most : Int) ≤ (most : Int)) := by omega
          go_wp2_with fail
          go_roundg (2 * most + 1 - (i + 1))
          case measure => have := HGI.out; omega
          case rel => exact ⟨i + 1, _, rfl, by omega, rfl, by first | go_num | (congr 1; omega), hB, Lib.hid (by rw [← HUA.out]; exact hr.out)⟩
    · obtain rfl : i = 2 * most + 1 := by omega
      have d3 : ¬ (((2 * most + 1 : Nat) : Int) - (most : Int) ≤ (most : Int)) := by omega
      have B5 := B3.trans (hB.mono B3.size)
      go_wp2_with fail
      go_ret
      exact ⟨⟨_, rfl, by rw [HDD.out]; obtain ⟨q, h1, h2⟩ := hr.out; exact ⟨q, own_baseM h1 B3.size, prM_base h2 B3.size⟩⟩, B5⟩
end Go.Proofs.Ytheddoinnakneaa
/- boxes of two numbers that a region made somewhere -/
namespace Go.Proofs.Ytheddoinnakneaa
open Go.ChangeShapes Go.WideShapes Go.ChangeAt Go.RowKit Go.Joins
set_option linter.unusedVariables false
set_option linter.unusedSimpArgs false
set_option maxRecDepth 4000
theorem bx2_heap {W : World} {g : Nat} {u v : Int} {T : TypeId} (h : W.heap[g]? = some (.cells #[.int .i64 u, .int .i64 v] T)) : Bx2 W g u v := by
  have hz : g < W.heap.size := by
    rcases Nat.lt_or_ge g W.heap.size with h1 | h1
    · exact h1
    · rw [Array.getElem?_eq_none h1] at h; cases h
  refine ⟨hz, ?_, ?_, fun o => ?_⟩
  · unfold World.cell?; simp [h]
  · unfold World.cell?; simp [h]
  · unfold World.frozen?; simp [h]
theorem bx2_other {W : World} {g : Nat} {u v : Int} (h : Bx2 W g u v) (a : Addr) (x : Value) (ha : a.block ≠ g) : Bx2 (W.setCell a x) g u v := by
  have hc : ∀ o, (W.setCell a x).cell? ⟨g, o, none⟩ = W.cell? ⟨g, o, none⟩ := fun o => World.cell?_setCell_other _ _ _ _ (fun e => ha (by rw [e]))
  exact ⟨by simpa [World.setCell] using h.z, (hc 0).trans h.c0, (hc 1).trans h.c1, fun o => by rw [World.frozen?_setCell]; exact h.fz o⟩
theorem below_set2b {b : Nat} {w W : World} (h : Below b w W) (g : Nat) (hg : b ≤ g) (x y : Value) : Below b w ((W.setCell ⟨g, 0, none⟩ x).setCell ⟨g, 1, none⟩ y) :=
  Below.setCell (Below.setCell h (by simpa using hg) _) (by simpa using hg) _
theorem alB_below {W0 W1 W : World} {obj : Obj} (k1 : Below W0.heap.size W0 W1) (k2 : Below (W1.alloc obj).heap.size (W1.alloc obj) W) : Below W0.heap.size W0 W ∧ W0.heap.size ≤ W1.heap.size ∧ W1.heap.size < W.heap.size := by
  have h1 := k1.size
  have hA := Below.alloc k1 h1 obj
  refine ⟨hA.trans (k2.mono hA.size), h1, ?_⟩
  have := k2.size
  simp only [World.size_alloc] at this
  omega
end Go.Proofs.Ytheddoinnakneaa
/- contract: A and B of FlatMove, the program -/
namespace Go.Proofs.Ytheddoinnakneaa
open Go.ChangeShapes Go.WideShapes Go.ChangeAt Go.RowKit Go.Joins
set_option linter.unusedVariables false
set_option linter.unusedSimpArgs false
set_option maxRecDepth 4000
theorem bs_bd {u v : Int} (hu : 0 < u ∧ u ≤ 12800) (hv : -12800 ≤ v ∧ v ≤ 12800) : (0 ≤ bsR u v ∧ bsR u v < u) ∧ (-12800 ≤ bsA u v ∧ bsA u v ≤ 12800) ∧ (-200000000 ≤ bsA u v * v ∧ bsA u v * v ≤ 200000000) := by
  have h1 := bsR_is (v := v) hu.1
  have h2 := bsA_is (v := v) hu.1
  have h3 := mul_bd (x := bsA u v) (y := v) (m := 12800) (n := 12800) (by omega) (by omega) (by omega) (by omega)
  exact ⟨h1.1, by omega, by omega⟩
set_option maxHeartbeats 4000000 in
theorem beside_any (u v : Int) (w : World) (hu : 0 ≤ u ∧ u ≤ 12800) (hv : -12800 ≤ v ∧ v ≤ 12800) :
    Calls Try.prog 64 #[.agg #[.int .i64 u, .int .i64 v]] w fun e w' => e = .returned (.agg #[.int .i64 (bsA u v), .int .i64 (bsB u v)]) ∧ Below w.heap.size w w' := by
  by_cases h0 : u = 0
  · subst h0
    have e1 : bsA 0 v = 1 := by unfold bsA; simp
    have e2 : bsB 0 v = 0 := by unfold bsB; simp
    rw [e1, e2]
    clear e1 e2 hu hv
    go_enter Try.func64, Try.ntmps64
    go_wp2_with fail
    have B2 : Below w.heap.size w ((w.alloc (.cells #[.int .i64 0, .int .i64 v] 66)).alloc (.cells #[.int .i64 1, .int .i64 0] 66)) := Below.alloc (Below.alloc (Below.refl _ _) (Nat.le_refl _) _) (by simp) _
    refine bodyPost_ret (v := .agg #[.int .i64 1, .int .i64 0]) (by simp [results, Try.results64, go_sem]; try go_simp) rfl ⟨rfl, ?_⟩
    exact B2
  · have hu1 : 0 < u ∧ u ≤ 12800 := by omega
    have KD := Lib.hid (fun W => divisorOf_any u v W (by omega) (by omega))
    have hb := bs_bd hu1 hv
    have hbe := (eu_bnd (a := u) (b := v) (by omega) (by omega)).2
    have hR : Hid (bsR u v = ((euV u v).tmod u + u).tmod u) := Lib.hid rfl
    have hA : Hid (bsA u v = if u < 2 * bsR u v then bsR u v - u else bsR u v) := Lib.hid (by unfold bsA; rw [if_neg h0])
    have hB : Hid (bsB u v = (bsA u v * v - 1).tdiv u) := Lib.hid (by unfold bsB; rw [if_neg h0])
    generalize euG u v = g0 at *
    generalize euU u v = x0 at *
    generalize euV u v = e at *
    generalize bsR u v = r at *
    generalize bsA u v = A at *
    generalize bsB u v = B at *
    obtain ⟨⟨r1, r2⟩, ⟨r3, r4⟩, r5, r6⟩ := hb
    have m1 := Int.tmod_lt_of_pos e hu1.1
    have m2 := Int.lt_tmod_of_pos e hu1.1
    have w1 : IntKind.i64.wrap (e.tmod u) = e.tmod u := IntWalk.i64_in _ (by omega)
    have w2 : IntKind.i64.wrap (e.tmod u + u) = e.tmod u + u := IntWalk.i64_in _ (by omega)
    have w3 : IntKind.i64.wrap ((e.tmod u + u).tmod u) = (e.tmod u + u).tmod u := IntWalk.i64_in _ (by rw [← hR.out]; omega)
    have w4 : IntKind.i64.wrap (2 * r) = 2 * r := IntWalk.i64_in _ (by omega)
    have w5 : IntKind.i64.wrap (r - u) = r - u := IntWalk.i64_in _ (by omega)
    have w6 : IntKind.i64.wrap (A * v) = A * v := IntWalk.i64_in _ (by omega)
    have w7 : IntKind.i64.wrap (A * v - 1) = A * v - 1 := IntWalk.i64_in _ (by omega)
    have hq : ((A * v - 1).tdiv u).natAbs ≤ (A * v - 1).natAbs := by rw [Int.natAbs_tdiv]; exact Nat.div_le_self _ _
    have w8 : IntKind.i64.wrap ((A * v - 1).tdiv u) = (A * v - 1).tdiv u := IntWalk.i64_in _ (by omega)
    clear hq r1 r2 r3 r4 r5 r6 m1 m2 hbe hu hv hu1
    go_enter Try.func64, Try.ntmps64
    go_wp2_with fail
    obtain ⟨W0, hW0⟩ : ∃ W0, W0 = ((w.alloc (.cells #[.int .i64 u, .int .i64 v] 66)).alloc (.cells #[.int .i64 0, .int .i64 0] 66)) := ⟨_, rfl⟩
    rw [← hW0]
    have yW00_0 : W0.cell? ⟨w.heap.size, 0, none⟩ = some (.int .i64 u) := by rw [hW0]; go_simp
    have yW00_1 : W0.cell? ⟨w.heap.size, 1, none⟩ = some (.int .i64 v) := by rw [hW0]; go_simp
    have fW00 : ∀ o, W0.frozen? ⟨w.heap.size, o, none⟩ = false := by intro o; rw [hW0]; (repeat rw [frozen?_alloc_cells]); simp [World.frozen?]
    have zW00 : w.heap.size < W0.heap.size := by rw [hW0]; simp <;> omega
    have yW01_0 : W0.cell? ⟨w.heap.size + 1, 0, none⟩ = some (.int .i64 0) := by rw [hW0]; go_simp
    have yW01_1 : W0.cell? ⟨w.heap.size + 1, 1, none⟩ = some (.int .i64 0) := by rw [hW0]; go_simp
    have fW01 : ∀ o, W0.frozen? ⟨w.heap.size + 1, o, none⟩ = false := by intro o; rw [hW0]; (repeat rw [frozen?_alloc_cells]); simp [World.frozen?]
    have zW01 : w.heap.size + 1 < W0.heap.size := by rw [hW0]; simp <;> omega
    have BW0 : Below w.heap.size w W0 := by rw [hW0]; exact (Below.alloc (Below.alloc (Below.refl _ _) (by simp <;> omega) _) (by simp <;> omega) _)
    have eW0 : Hid (W0.heap.size = w.heap.size + 2) := Lib.hid (by rw [hW0]; simp)
    clear hW0
    refine (KD.out _).mono ?_; rintro e1 w1' ⟨rfl, hb1⟩
    have BX := Lib.hid (bx2_below (show Bx2 W0 w.heap.size u v from ⟨zW00, yW00_0, yW00_1, fW00⟩) hb1)
    have BR := Lib.hid (bx2_below (show Bx2 W0 (w.heap.size + 1) 0 0 from ⟨zW01, yW01_0, yW01_1, fW01⟩) hb1)
    have B1 := BW0.trans (hb1.mono BW0.size)
    clear hb1 BW0 eW0 zW00 zW01 yW00_0 yW00_1 yW01_0 yW01_1 fW00 fW01
    have c0 := BX.out.c0
    have c1 := BX.out.c1
    have cz := BX.out.z
    go_wp2_with fail
    refine wp_region_B (fun W => Below w1'.heap.size w1' W) (by kernel_rfl) (by repeat (first | exact Below.refl _ _ | apply Below.drew)) ?_
    first | refine wpB_skip 0 rfl (by kernel_rfl) (by kernel_rfl) (by kernel_rfl) (by rfl) ?_ | (refine wpB_text 0 (v := ?_) rfl (by kernel_rfl) (by kernel_rfl) (by kernel_rfl) (by rfl) (fun W hW => ?_) ?_; rotate_left; (have k1 := hW; obtain ⟨hc1, hf1⟩ := bcell k1; go_simp; refine comes_v ?_; exact k1))
    (try simp only [Act.put, List.setIfInBounds_toArray, List.set_cons_zero, List.set_cons_succ])
    first | refine wpB_skip 1 rfl (by kernel_rfl) (by kernel_rfl) (by kernel_rfl) (by rfl) ?_ | (refine wpB_text 1 (v := ?_) rfl (by kernel_rfl) (by kernel_rfl) (by kernel_rfl) (by rfl) (fun W hW => ?_) ?_; rotate_left; (have k1 := hW; obtain ⟨hc1, hf1⟩ := bcell k1; go_simp; refine comes_v ?_; exact k1))
    (try simp only [Act.put, List.setIfInBounds_toArray, List.set_cons_zero, List.set_cons_succ])
    first | refine wpB_skip 2 rfl (by kernel_rfl) (by kernel_rfl) (by kernel_rfl) (by rfl) ?_ | (refine wpB_text 2 (v := ?_) rfl (by kernel_rfl) (by kernel_rfl) (by kernel_rfl) (by rfl) (fun W hW => ?_) ?_; rotate_left; (have k1 := hW; obtain ⟨hc1, hf1⟩ := bcell k1; go_simp; refine comes_v ?_; exact k1))
    (try simp only [Act.put, List.setIfInBounds_toArray, List.set_cons_zero, List.set_cons_succ])
    first | refine wpB_skip 3 rfl (by kernel_rfl) (by kernel_rfl) (by kernel_rfl) (by rfl) ?_ | (refine wpB_text 3 (v := ?_) rfl (by kernel_rfl) (by kernel_rfl) (by kernel_rfl) (by rfl) (fun W hW => ?_) ?_; rotate_left; (have k1 := hW; obtain ⟨hc1, hf1⟩ := bcell k1; go_simp; refine comes_v ?_; exact k1))
    (try simp only [Act.put, List.setIfInBounds_toArray, List.set_cons_zero, List.set_cons_succ])
    first | refine wpB_skip 4 rfl (by kernel_rfl) (by kernel_rfl) (by kernel_rfl) (by rfl) ?_ | (refine wpB_text 4 (v := ?_) rfl (by kernel_rfl) (by kernel_rfl) (by kernel_rfl) (by rfl) (fun W hW => ?_) ?_; rotate_left; (have k1 := hW; obtain ⟨hc1, hf1⟩ := bcell k1; go_simp; refine comes_v ?_; exact k1))
    (try simp only [Act.put, List.setIfInBounds_toArray, List.set_cons_zero, List.set_cons_succ])
    first | refine wpB_skip 5 rfl (by kernel_rfl) (by kernel_rfl) (by kernel_rfl) (by rfl) ?_ | (refine wpB_text 5 (v := ?_) rfl (by kernel_rfl) (by kernel_rfl) (by kernel_rfl) (by rfl) (fun W hW => ?_) ?_; rotate_left; (have k1 := hW; obtain ⟨hc1, hf1⟩ := bcell k1; go_simp; refine comes_v ?_; exact k1))
    (try simp only [Act.put, List.setIfInBounds_toArray, List.set_cons_zero, List.set_cons_succ])
    first | refine wpB_skip 6 rfl (by kernel_rfl) (by kernel_rfl) (by kernel_rfl) (by rfl) ?_ | (refine wpB_text 6 (v := ?_) rfl (by kernel_rfl) (by kernel_rfl) (by kernel_rfl) (by rfl) (fun W hW => ?_) ?_; rotate_left; (have k1 := hW; obtain ⟨hc1, hf1⟩ := bcell k1; go_simp; refine comes_v ?_; exact k1))
    (try simp only [Act.put, List.setIfInBounds_toArray, List.set_cons_zero, List.set_cons_succ])
    first | refine wpB_skip 7 rfl (by kernel_rfl) (by kernel_rfl) (by kernel_rfl) (by rfl) ?_ | (refine wpB_text 7 (v := ?_) rfl (by kernel_rfl) (by kernel_rfl) (by kernel_rfl) (by rfl) (fun W hW => ?_) ?_; rotate_left; (have k1 := hW; obtain ⟨hc1, hf1⟩ := bcell k1; go_simp; refine comes_v ?_; exact k1))
    (try simp only [Act.put, List.setIfInBounds_toArray, List.set_cons_zero, List.set_cons_succ])
    first | refine wpB_skip 8 rfl (by kernel_rfl) (by kernel_rfl) (by kernel_rfl) (by rfl) ?_ | (refine wpB_text 8 (v := ?_) rfl (by kernel_rfl) (by kernel_rfl) (by kernel_rfl) (by rfl) (fun W hW => ?_) ?_; rotate_left; (have k1 := hW; obtain ⟨hc1, hf1⟩ := bcell k1; go_simp; refine comes_v ?_; exact k1))
    (try simp only [Act.put, List.setIfInBounds_toArray, List.set_cons_zero, List.set_cons_succ])
    first | refine wpB_skip 9 rfl (by kernel_rfl) (by kernel_rfl) (by kernel_rfl) (by rfl) ?_ | (refine wpB_text 9 (v := ?_) rfl (by kernel_rfl) (by kernel_rfl) (by kernel_rfl) (by rfl) (fun W hW => ?_) ?_; rotate_left; (have k1 := hW; obtain ⟨hc1, hf1⟩ := bcell k1; go_simp; refine comes_v ?_; exact k1))
    (try simp only [Act.put, List.setIfInBounds_toArray, List.set_cons_zero, List.set_cons_succ])
    first | refine wpB_skip 10 rfl (by kernel_rfl) (by kernel_rfl) (by kernel_rfl) (by rfl) ?_ | (refine wpB_text 10 (v := ?_) rfl (by kernel_rfl) (by kernel_rfl) (by kernel_rfl) (by rfl) (fun W hW => ?_) ?_; rotate_left; (have k1 := hW; obtain ⟨hc1, hf1⟩ := bcell k1; go_simp; refine comes_v ?_; exact k1))
    (try simp only [Act.put, List.setIfInBounds_toArray, List.set_cons_zero, List.set_cons_succ])
    refine wpB_done (by kernel_rfl) ?_ _
    intro W hW; have k1 := hW
    rw [← hR.out]
    have BX2 := Lib.hid (bx2_below BX.out k1)
    have BR2 := Lib.hid (bx2_below BR.out k1)
    have B2 := B1.trans (k1.mono B1.size)
    clear w1 w2 w3 c0 c1 cz k1 B1 BX BR hR KD
    have c0 := BX2.out.c0
    have c1 := BX2.out.c1
    have cz := BX2.out.z
    have d0 := BR2.out.c0
    have d1 := BR2.out.c1
    have dz := BR2.out.z
    have f0 := BR2.out.fz 0
    have f1 := BR2.out.fz 1
    have hz := B2.size
    have hu0 : ¬ u = 0 := h0
    by_cases hc : u < 2 * r
    · have hA2 : A = r - u := by rw [hA.out, if_pos hc]
      rw [hA2] at w6 w7 w8 hB
      have HA2 := Lib.hid hA2
      clear hA hA2
      go_wp2_with fail
      obtain ⟨W3, hW3⟩ : ∃ W3, W3 = (W.setCell ⟨w.heap.size + 1, 0, none⟩ (.int .i64 (r - u))).setCell ⟨w.heap.size + 1, 1, none⟩ (.int .i64 (((r - u) * v - 1).tdiv u)) := ⟨_, rfl⟩
      rw [← hW3]
      have BF : Bx2 W3 (w.heap.size + 1) (r - u) (((r - u) * v - 1).tdiv u) := by rw [hW3]; exact bx2_store BR2.out _ _
      refine bodyPost_ret (v := .agg #[.int .i64 (r - u), .int .i64 (((r - u) * v - 1).tdiv u)]) (by simp [results, Try.results64, go_sem, BF.c0, BF.c1, BF.z]) rfl ⟨by rw [hB.out, HA2.out], ?_⟩
      rw [hW3]
      exact below_set2b B2 (w.heap.size + 1) (by omega) _ _
    · have hA2 : A = r := by rw [hA.out, if_neg hc]
      rw [hA2] at w6 w7 w8 hB
      have HA2 := Lib.hid hA2
      clear hA hA2
      go_wp2_with fail
      obtain ⟨W3, hW3⟩ : ∃ W3, W3 = (W.setCell ⟨w.heap.size + 1, 0, none⟩ (.int .i64 r)).setCell ⟨w.heap.size + 1, 1, none⟩ (.int .i64 ((r * v - 1).tdiv u)) := ⟨_, rfl⟩
      rw [← hW3]
      have BF : Bx2 W3 (w.heap.size + 1) r ((r * v - 1).tdiv u) := by rw [hW3]; exact bx2_store BR2.out _ _
      refine bodyPost_ret (v := .agg #[.int .i64 r, .int .i64 ((r * v - 1).tdiv u)]) (by simp [results, Try.results64, go_sem, BF.c0, BF.c1, BF.z]) rfl ⟨by rw [hB.out, HA2.out], ?_⟩
      rw [hW3]
      exact below_set2b B2 (w.heap.size + 1) (by omega) _ _
end Go.Proofs.Ytheddoinnakneaa
/- contracts: spans, the program -/
namespace Go.Proofs.Ytheddoinnakneaa
open Go.ChangeShapes Go.WideShapes Go.ChangeAt Go.RowKit Go.Joins
set_option linter.unusedVariables false
set_option linter.unusedSimpArgs false
set_option maxRecDepth 4000
theorem value_any (u v : Int) (p : Int × Int) (w : World) (h1 : -20000 ≤ u) (h2 : u ≤ 20000) (h3 : -20000 ≤ v) (h4 : v ≤ 20000) (hp : isPg p = true) :
    Calls Try.prog 76 #[.agg #[.int .i64 u, .int .i64 v], .agg #[.int .i64 p.1, .int .i64 p.2]] w fun e w' => e = .returned (.int .i64 (vlu u v p)) ∧ Below w.heap.size w w' := by
  obtain ⟨⟨p1, p2⟩, p3, p4⟩ := vlu_parts h1 h2 h3 h4 hp
  have i0 : IntKind.i64.wrap (u * p.1) = u * p.1 := IntWalk.i64_in _ (by omega)
  have i1 : IntKind.i64.wrap (v * p.2) = v * p.2 := IntWalk.i64_in _ (by omega)
  have i2 : IntKind.i64.wrap (u * p.1 + v * p.2) = u * p.1 + v * p.2 := IntWalk.i64_in _ (by omega)
  clear h1 h2 h3 h4 hp p1 p2 p3 p4
  go_enter Try.func76, Try.ntmps76
  go_wp2_with fail
  go_ret
  exact ⟨rfl, (by repeat (first | exact Below.refl _ _ | assumption | apply Below.drew | refine Below.alloc ?_ (by simp <;> omega) _))⟩
/-- a span's box, one of our own -/
structure Spn (w wr : World) (g : Nat) (u v a b : Int) : Prop where
  below : Below w.heap.size w wr
  lo : w.heap.size ≤ g
  up : g < wr.heap.size
  c0 : wr.cell? ⟨g, 0, none⟩ = some (.int .i64 u)
  c1 : wr.cell? ⟨g, 1, none⟩ = some (.int .i64 v)
  c2 : wr.cell? ⟨g, 2, none⟩ = some (.int .i64 a)
  c3 : wr.cell? ⟨g, 3, none⟩ = some (.int .i64 b)
  fz : ∀ o, wr.frozen? ⟨g, o, none⟩ = false
theorem spn_below {w wr W : World} {g : Nat} {u v a b : Int} (t : Spn w wr g u v a b) (hb : Below wr.heap.size wr W) : Spn w W g u v a b := by
  obtain ⟨t1, t2, t3, t4, t5, t6, t7, t8⟩ := t
  have hc := (bcell hb).1
  have hf := (bcell hb).2
  have hz := hb.size
  exact ⟨t1.trans (hb.mono t1.size), t2, by omega, (hc _ _ t3).trans t4, (hc _ _ t3).trans t5, (hc _ _ t3).trans t6, (hc _ _ t3).trans t7, fun o => (hf _ _ t3).trans (t8 o)⟩
theorem spn_a {w wr : World} {g : Nat} {u v a b : Int} (t : Spn w wr g u v a b) (x : Int) : Spn w (wr.setCell ⟨g, 2, none⟩ (.int .i64 x)) g u v x b := by
  obtain ⟨t1, t2, t3, t4, t5, t6, t7, t8⟩ := t
  have o : ∀ k, k ≠ 2 → (wr.setCell ⟨g, 2, none⟩ (.int .i64 x)).cell? ⟨g, k, none⟩ = wr.cell? ⟨g, k, none⟩ := fun k hk => World.cell?_setCell_other _ _ _ _ (fun e => hk (by injection e with e1 e2; exact e2.symm))
  exact ⟨t1.setCell t2 _, t2, by simpa [World.setCell] using t3, (o 0 (by omega)).trans t4, (o 1 (by omega)).trans t5, World.cell?_setCell_same _ _ _ t6, (o 3 (by omega)).trans t7, fun k => by rw [World.frozen?_setCell]; exact t8 k⟩
theorem spn_b {w wr : World} {g : Nat} {u v a b : Int} (t : Spn w wr g u v a b) (x : Int) : Spn w (wr.setCell ⟨g, 3, none⟩ (.int .i64 x)) g u v a x := by
  obtain ⟨t1, t2, t3, t4, t5, t6, t7, t8⟩ := t
  have o : ∀ k, k ≠ 3 → (wr.setCell ⟨g, 3, none⟩ (.int .i64 x)).cell? ⟨g, k, none⟩ = wr.cell? ⟨g, k, none⟩ := fun k hk => World.cell?_setCell_other _ _ _ _ (fun e => hk (by injection e with e1 e2; exact e2.symm))
  exact ⟨t1.setCell t2 _, t2, by simpa [World.setCell] using t3, (o 0 (by omega)).trans t4, (o 1 (by omega)).trans t5, (o 2 (by omega)).trans t6, World.cell?_setCell_same _ _ _ t7, fun k => by rw [World.frozen?_setCell]; exact t8 k⟩
theorem spn_new (w w1 : World) (t : TypeId) (h : Below w.heap.size w w1) : Spn w (w1.alloc (.cells #[.int .i64 0, .int .i64 0, .int .i64 0, .int .i64 0] t)) w1.heap.size 0 0 0 0 :=
  ⟨Below.alloc h h.size _, h.size, by simp, by go_simp, by go_simp, by go_simp, by go_simp, fun o => by rw [frozen?_alloc_cells]; simp [World.frozen?]⟩
theorem spn_u {w wr : World} {g : Nat} {u v a b : Int} (t : Spn w wr g u v a b) (x : Int) : Spn w (wr.setCell ⟨g, 0, none⟩ (.int .i64 x)) g x v a b := by
  obtain ⟨t1, t2, t3, t4, t5, t6, t7, t8⟩ := t
  have o : ∀ k, k ≠ 0 → (wr.setCell ⟨g, 0, none⟩ (.int .i64 x)).cell? ⟨g, k, none⟩ = wr.cell? ⟨g, k, none⟩ := fun k hk => World.cell?_setCell_other _ _ _ _ (fun e => hk (by injection e with e1 e2; exact e2.symm))
  exact ⟨t1.setCell t2 _, t2, by simpa [World.setCell] using t3, World.cell?_setCell_same _ _ _ t4, (o 1 (by omega)).trans t5, (o 2 (by omega)).trans t6, (o 3 (by omega)).trans t7, fun k => by rw [World.frozen?_setCell]; exact t8 k⟩
theorem spn_v {w wr : World} {g : Nat} {u v a b : Int} (t : Spn w wr g u v a b) (x : Int) : Spn w (wr.setCell ⟨g, 1, none⟩ (.int .i64 x)) g u x a b := by
  obtain ⟨t1, t2, t3, t4, t5, t6, t7, t8⟩ := t
  have o : ∀ k, k ≠ 1 → (wr.setCell ⟨g, 1, none⟩ (.int .i64 x)).cell? ⟨g, k, none⟩ = wr.cell? ⟨g, k, none⟩ := fun k hk => World.cell?_setCell_other _ _ _ _ (fun e => hk (by injection e with e1 e2; exact e2.symm))
  exact ⟨t1.setCell t2 _, t2, by simpa [World.setCell] using t3, (o 0 (by omega)).trans t4, World.cell?_setCell_same _ _ _ t5, (o 2 (by omega)).trans t6, (o 3 (by omega)).trans t7, fun k => by rw [World.frozen?_setCell]; exact t8 k⟩
theorem spn_sets {w wr : World} {g : Nat} {u v a b : Int} (t : Spn w wr g u v a b) (x0 x1 x2 x3 : Int) : Spn w ((((wr.setCell ⟨g, 0, none⟩ (.int .i64 x0)).setCell ⟨g, 1, none⟩ (.int .i64 x1)).setCell ⟨g, 2, none⟩ (.int .i64 x2)).setCell ⟨g, 3, none⟩ (.int .i64 x3)) g x0 x1 x2 x3 :=
  spn_b (spn_a (spn_v (spn_u t x0) x1) x2) x3
theorem min_if' (x y : Int) : (if y < x then y else x) = min x y := by omega
theorem max_if' (x y : Int) : (if x < y then y else x) = max x y := by omega
set_option maxRecDepth 100000 in
set_option maxHeartbeats 4000000 in
theorem spanOf_any (A : Option Addr) (c : Nat) (l : List (Int × Int)) (u v : Int) (w : World) (h1 : -20000 ≤ u) (h2 : u ≤ 20000) (h3 : -20000 ≤ v) (h4 : v ≤ 20000) (hg : Good l) (hR : Rd w w.heap.size A l) :
    Calls Try.prog 63 #[.slice A l.length c, .agg #[.int .i64 u, .int .i64 v]] w fun e w' => e = .returned (.agg #[.int .i64 u, .int .i64 v, .int .i64 (loW l u v l.length), .int .i64 (hiW l u v l.length)]) ∧ Below w.heap.size w w' := by
  have hf := hg.few
  obtain ⟨b, off, rfl, hb, HC⟩ := pts_of (by omega) hR
  have KV := Lib.hid (fun i (hi : i < l.length) W => value_any u v (vx l i) W h1 h2 h3 h4 (hg.pegs i hi))
  have HBD := Lib.hid (lohi_bd h1 h2 h3 h4 hg.pegs (by omega))
  have HS : Hid (∀ k, loW l u v (k + 1) = min (loW l u v k) (vlu u v (vx l k)) ∧ hiW l u v (k + 1) = max (hiW l u v k) (vlu u v (vx l k))) := Lib.hid (fun k => ⟨rfl, rfl⟩)
  have H0 : Hid (loW l u v 0 = vlu u v (vx l 0) ∧ hiW l u v 0 = vlu u v (vx l 0)) := Lib.hid ⟨rfl, rfl⟩
  have h3l := hf.1
  have h10 := hf.2
  clear hR hf hg h1 h2 h3 h4
  generalize hN : l.length = n at *
  clear hN
  have hn0 : 0 < n := by omega
  go_enter Try.func63, Try.ntmps63
  go_wp2_with fail
  obtain ⟨W0, hW0⟩ : ∃ W0, W0 = ((w.alloc (.cells #[.int .i64 u, .int .i64 v] 66)).alloc (.cells #[.int .i64 0, .int .i64 0, .int .i64 0, .int .i64 0] 68)) := ⟨_, rfl⟩
  rw [← hW0]
  have yW00_0 : W0.cell? ⟨w.heap.size, 0, none⟩ = some (.int .i64 u) := by rw [hW0]; go_simp
  have yW00_1 : W0.cell? ⟨w.heap.size, 1, none⟩ = some (.int .i64 v) := by rw [hW0]; go_simp
  have fW00 : ∀ o, W0.frozen? ⟨w.heap.size, o, none⟩ = false := by intro o; rw [hW0]; (repeat rw [frozen?_alloc_cells]); simp [World.frozen?]
  have zW00 : w.heap.size < W0.heap.size := by rw [hW0]; simp <;> omega
  have yW01_0 : W0.cell? ⟨w.heap.size + 1, 0, none⟩ = some (.int .i64 0) := by rw [hW0]; go_simp
  have yW01_1 : W0.cell? ⟨w.heap.size + 1, 1, none⟩ = some (.int .i64 0) := by rw [hW0]; go_simp
  have yW01_2 : W0.cell? ⟨w.heap.size + 1, 2, none⟩ = some (.int .i64 0) := by rw [hW0]; go_simp
  have yW01_3 : W0.cell? ⟨w.heap.size + 1, 3, none⟩ = some (.int .i64 0) := by rw [hW0]; go_simp
  have fW01 : ∀ o, W0.frozen? ⟨w.heap.size + 1, o, none⟩ = false := by intro o; rw [hW0]; (repeat rw [frozen?_alloc_cells]); simp [World.frozen?]
  have zW01 : w.heap.size + 1 < W0.heap.size := by rw [hW0]; simp <;> omega
  have BW0 : Below w.heap.size w W0 := by rw [hW0]; exact (Below.alloc (Below.alloc (Below.refl _ _) (by simp <;> omega) _) (by simp <;> omega) _)
  have eW0 : Hid (W0.heap.size = w.heap.size + 2) := Lib.hid (by rw [hW0]; simp)
  clear hW0
  obtain ⟨x0, x1⟩ := HC.out W0 BW0 0 (by omega)
  simp only [Nat.zero_mul, Nat.add_zero] at x0 x1
  have K0 := Lib.hid (fun W => KV.out 0 (by omega) W)
  generalize hv0 : vlu u v (vx l 0) = v0 at *
  have HV0 := Lib.hid hv0
  clear hv0
  have D0 := yW00_0
  have D1 := yW00_1
  have hb0 : b < W0.heap.size := by have := BW0.size; omega
  refine wp_region_AL 12 (W0) (obj := .cells #[.int .i64 0, .int .i64 0, .int .i64 0, .int .i64 0] 68) (by kernel_rfl) (by kernel_rfl) (by repeat (first | exact Below.refl _ _ | apply Below.drew)) rfl (fun _ => by rfl) (fun _ _ => by first | rfl | go_simp) ?_
  simp only [List.take_succ_cons, List.take_zero, List.drop_succ_cons, List.drop_zero]
  first | refine wpR_skip (by rfl) ?_ | (refine wpR_text (v := ?_) (by rfl) (fun W k1 => ?_) ?_; rotate_left; (obtain ⟨hc1, hf1⟩ := bcell k1;  go_simp; refine comes_v ?_; exact Below.refl _ _))
  (try simp only [Act.put, List.setIfInBounds_toArray, List.set_cons_zero, List.set_cons_succ])
  first | refine wpR_skip (by rfl) ?_ | (refine wpR_text (v := ?_) (by rfl) (fun W k1 => ?_) ?_; rotate_left; (obtain ⟨hc1, hf1⟩ := bcell k1;  go_simp; refine comes_v ?_; exact Below.refl _ _))
  (try simp only [Act.put, List.setIfInBounds_toArray, List.set_cons_zero, List.set_cons_succ])
  first | refine wpR_skip (by rfl) ?_ | (refine wpR_text (v := ?_) (by rfl) (fun W k1 => ?_) ?_; rotate_left; (obtain ⟨hc1, hf1⟩ := bcell k1;  go_simp; refine comes_v ?_; exact Below.refl _ _))
  (try simp only [Act.put, List.setIfInBounds_toArray, List.set_cons_zero, List.set_cons_succ])
  first | refine wpR_skip (by rfl) ?_ | (refine wpR_text (v := ?_) (by rfl) (fun W k1 => ?_) ?_; rotate_left; (obtain ⟨hc1, hf1⟩ := bcell k1;  go_simp; refine comes_v ?_; exact Below.refl _ _))
  (try simp only [Act.put, List.setIfInBounds_toArray, List.set_cons_zero, List.set_cons_succ])
  first | refine wpR_skip (by rfl) ?_ | (refine wpR_text (v := ?_) (by rfl) (fun W k1 => ?_) ?_; rotate_left; (obtain ⟨hc1, hf1⟩ := bcell k1;  go_simp; refine comes_v ?_; exact Below.refl _ _))
  (try simp only [Act.put, List.setIfInBounds_toArray, List.set_cons_zero, List.set_cons_succ])
  first | refine wpR_skip (by rfl) ?_ | (refine wpR_text (v := .int .i64 v0) (by rfl) (fun W k1 => ?_) ?_; (obtain ⟨hc1, hf1⟩ := bcell k1;  go_simp; exact comes_c ( K0.out _) (fun wn hbn => hbn)))
  (try simp only [Act.put, List.setIfInBounds_toArray, List.set_cons_zero, List.set_cons_succ])
  first | refine wpR_skip (by rfl) ?_ | (refine wpR_text (v := ?_) (by rfl) (fun W k1 => ?_) ?_; rotate_left; (obtain ⟨hc1, hf1⟩ := bcell k1;  go_simp; refine comes_v ?_; exact Below.refl _ _))
  (try simp only [Act.put, List.setIfInBounds_toArray, List.set_cons_zero, List.set_cons_succ])
  first | refine wpR_skip (by rfl) ?_ | (refine wpR_text (v := ?_) (by rfl) (fun W k1 => ?_) ?_; rotate_left; (obtain ⟨hc1, hf1⟩ := bcell k1;  go_simp; refine comes_v ?_; exact Below.refl _ _))
  (try simp only [Act.put, List.setIfInBounds_toArray, List.set_cons_zero, List.set_cons_succ])
  first | refine wpR_skip (by rfl) ?_ | (refine wpR_text (v := ?_) (by rfl) (fun W k1 => ?_) ?_; rotate_left; (obtain ⟨hc1, hf1⟩ := bcell k1;  go_simp; refine comes_v ?_; exact Below.refl _ _))
  (try simp only [Act.put, List.setIfInBounds_toArray, List.set_cons_zero, List.set_cons_succ])
  first | refine wpR_skip (by rfl) ?_ | (refine wpR_text (v := ?_) (by rfl) (fun W k1 => ?_) ?_; rotate_left; (obtain ⟨hc1, hf1⟩ := bcell k1;  go_simp; refine comes_v ?_; exact Below.refl _ _))
  (try simp only [Act.put, List.setIfInBounds_toArray, List.set_cons_zero, List.set_cons_succ])
  first | refine wpR_skip (by rfl) ?_ | (refine wpR_text (v := .int .i64 v0) (by rfl) (fun W k1 => ?_) ?_; (obtain ⟨hc1, hf1⟩ := bcell k1;  go_simp; exact comes_c ( K0.out _) (fun wn hbn => hbn)))
  (try simp only [Act.put, List.setIfInBounds_toArray, List.set_cons_zero, List.set_cons_succ])
  first | refine wpR_skip (by rfl) ?_ | (refine wpR_text (v := ?_) (by rfl) (fun W k1 => ?_) ?_; rotate_left; (obtain ⟨hc1, hf1⟩ := bcell k1;  go_simp; refine comes_v ?_; exact Below.refl _ _))
  (try simp only [Act.put, List.setIfInBounds_toArray, List.set_cons_zero, List.set_cons_succ])
  refine wpR_nil ?_
  intro W1 W k1 k2
  (try simp only [Act.put, List.setIfInBounds_toArray, List.set_cons_zero, List.set_cons_succ])
  have T0 := Lib.hid (spn_below (spn_new W0 W1 68 k1) k2)
  have T1 := Lib.hid (spn_sets T0.out u v v0 v0)
  obtain ⟨t1, t2, t3, t4, t5, t6, t7, t8⟩ := T0.out
  clear k1 k2 x0 x1 t1 T0 K0
  go_wp2_with fail
  have T2 := T1.out
  clear T1 t3 t4 t5 t6 t7 t8
  obtain ⟨g, hg⟩ : ∃ x, x = W1.heap.size := ⟨_, rfl⟩
  rw [← hg] at T2 t2 ⊢
  clear hg
  generalize ((((W.setCell ⟨g, 0, none⟩ (.int .i64 u)).setCell ⟨g, 1, none⟩ (.int .i64 v)).setCell ⟨g, 2, none⟩ (.int .i64 v0)).setCell ⟨g, 3, none⟩ (.int .i64 v0)) = W2 at T2 ⊢
  have T3 : Hid (Spn W0 W2 g u v (loW l u v 0) (hiW l u v 0)) := Lib.hid (by rw [H0.out.1, H0.out.2]; exact T2)
  clear T2
  go_wp2_with fail
  go_loopg [22] n (fun gg i wr => ∃ k : Nat, k ≤ n ∧ gg = n - k ∧ i = .int .i64 k ∧ Hid (Spn W0 wr g u v (loW l u v k) (hiW l u v k)))
  case atStart => exact ⟨0, Nat.zero_le _, rfl, rfl, T3⟩
  case round =>
    clear T3
    obtain ⟨k, hk, hgg, rfl, hT⟩ := hrel
    rename World => wo
    have HGK := Lib.hid hgg
    clear hgg
    by_cases hlt : k < n
    · obtain ⟨x0, x1⟩ := HC.out wo (BW0.trans (hT.out.below.mono BW0.size)) k hlt
      have hbo : b < wo.heap.size := by have := hT.out.below.size; omega
      obtain ⟨s1, s2⟩ := HS.out k
      have K1 := Lib.hid (fun W => KV.out k hlt W)
      generalize vlu u v (vx l k) = z at *
      have hup := hT.out.up
      go_wp2_with fail
      obtain ⟨Wb, hWb⟩ : ∃ Wb, Wb = (wo.alloc (.cells #[.int .i64 ((vx l k).1), .int .i64 ((vx l k).2)] 56)) := ⟨_, rfl⟩
      rw [← hWb]
      have yWb0_0 : Wb.cell? ⟨wo.heap.size, 0, none⟩ = some (.int .i64 ((vx l k).1)) := by rw [hWb]; go_simp
      have yWb0_1 : Wb.cell? ⟨wo.heap.size, 1, none⟩ = some (.int .i64 ((vx l k).2)) := by rw [hWb]; go_simp
      have fWb0 : ∀ o, Wb.frozen? ⟨wo.heap.size, o, none⟩ = false := by intro o; rw [hWb]; (repeat rw [frozen?_alloc_cells]); simp [World.frozen?]
      have zWb0 : wo.heap.size < Wb.heap.size := by rw [hWb]; simp <;> omega
      have BWb : Below wo.heap.size wo Wb := by rw [hWb]; exact (Below.alloc (Below.refl _ _) (by simp <;> omega) _)
      have eWb : Hid (Wb.heap.size = wo.heap.size + 1) := Lib.hid (by rw [hWb]; simp)
      clear hWb
      have T1 := Lib.hid (spn_below hT.out BWb)
      have c2 := T1.out.c2
      have zg := T1.out.up
      have E0 := (T1.out.below.cell (p := ⟨w.heap.size, 0, none⟩) zW00).trans D0
      have E1 := (T1.out.below.cell (p := ⟨w.heap.size, 1, none⟩) zW00).trans D1
      have ze : w.heap.size < Wb.heap.size := by have := T1.out.below.size; omega
      have gne : g ≠ wo.heap.size := by omega
      clear hT x0 x1 BWb fWb0 eWb
      generalize loW l u v k = lo at *
      generalize hiW l u v k = hi at *
      have mn := min_if' lo z
      have mx := max_if' hi z
      refine wp_region_BT 7 (fun W => Below (Wb).heap.size (Wb) W) (by kernel_rfl) (by kernel_rfl) (by repeat (first | exact Below.refl _ _ | apply Below.drew)) ?_
      simp only [List.take_succ_cons, List.take_zero, List.drop_succ_cons, List.drop_zero]
      first | refine wpH_skip (by rfl) ?_ | (refine wpH_text (v := ?_) (by rfl) (fun W k1 => ?_) ?_; rotate_left; (obtain ⟨hc1, hf1⟩ := bcell k1;  go_simp; refine comes_v ?_; exact k1))
      (try simp only [Act.put, List.setIfInBounds_toArray, List.set_cons_zero, List.set_cons_succ])
      first | refine wpH_skip (by rfl) ?_ | (refine wpH_text (v := ?_) (by rfl) (fun W k1 => ?_) ?_; rotate_left; (obtain ⟨hc1, hf1⟩ := bcell k1;  go_simp; refine comes_v ?_; exact k1))
      (try simp only [Act.put, List.setIfInBounds_toArray, List.set_cons_zero, List.set_cons_succ])
      first | refine wpH_skip (by rfl) ?_ | (refine wpH_text (v := ?_) (by rfl) (fun W k1 => ?_) ?_; rotate_left; (obtain ⟨hc1, hf1⟩ := bcell k1;  go_simp; refine comes_v ?_; exact k1))
      (try simp only [Act.put, List.setIfInBounds_toArray, List.set_cons_zero, List.set_cons_succ])
      first | refine wpH_skip (by rfl) ?_ | (refine wpH_text (v := ?_) (by rfl) (fun W k1 => ?_) ?_; rotate_left; (obtain ⟨hc1, hf1⟩ := bcell k1;  go_simp; refine comes_v ?_; exact k1))
      (try simp only [Act.put, List.setIfInBounds_toArray, List.set_cons_zero, List.set_cons_succ])
      first | refine wpH_skip (by rfl) ?_ | (refine wpH_text (v := .int .i64 z) (by rfl) (fun W k1 => ?_) ?_; (obtain ⟨hc1, hf1⟩ := bcell k1;  go_simp; exact comes_c ( K1.out _) (fun wn hbn => k1.trans (hbn.mono k1.size))))
      (try simp only [Act.put, List.setIfInBounds_toArray, List.set_cons_zero, List.set_cons_succ])
      first | refine wpH_skip (by rfl) ?_ | (refine wpH_text (v := ?_) (by rfl) (fun W k1 => ?_) ?_; rotate_left; (obtain ⟨hc1, hf1⟩ := bcell k1;  go_simp; refine comes_v ?_; exact k1))
      (try simp only [Act.put, List.setIfInBounds_toArray, List.set_cons_zero, List.set_cons_succ])
      first | refine wpH_skip (by rfl) ?_ | (refine wpH_text (v := ?_) (by rfl) (fun W k1 => ?_) ?_; rotate_left; (obtain ⟨hc1, hf1⟩ := bcell k1;  go_simp; refine comes_v ?_; exact k1))
      (try simp only [Act.put, List.setIfInBounds_toArray, List.set_cons_zero, List.set_cons_succ])
      refine wpH_nil ?_
      intro W k1; obtain ⟨hc1, hf1⟩ := bcell k1
      have T2 := Lib.hid (spn_a (spn_below T1.out k1) (min lo z))
      have d2 := (spn_below T1.out k1).c2
      have d3 := (spn_below T1.out k1).fz 2
      have d4 := (spn_below T1.out k1).up
      have p0 := (hc1 _ 0 zWb0).trans yWb0_0
      have p1 := (hc1 _ 1 zWb0).trans yWb0_1
      have zp := Nat.lt_of_lt_of_le zWb0 k1.size
      clear hc1 hf1 k1 c2 zg E0 E1 ze yWb0_0 yWb0_1 zWb0 T1
      go_wp2_with fail
      try simp only [mn]
      obtain ⟨W3, hW3⟩ : ∃ W3, W3 = W.setCell ⟨g, 2, none⟩ (.int .i64 (min lo z)) := ⟨_, rfl⟩
      rw [← hW3]
      rw [← hW3] at T2
      have p0' : W3.cell? ⟨wo.heap.size, 0, none⟩ = some (.int .i64 (vx l k).1) := by
        rw [hW3, World.cell?_setCell_other _ _ _ _ (fun e => gne (by injection e))]; exact p0
      have p1' : W3.cell? ⟨wo.heap.size, 1, none⟩ = some (.int .i64 (vx l k).2) := by
        rw [hW3, World.cell?_setCell_other _ _ _ _ (fun e => gne (by injection e))]; exact p1
      have zp3 : wo.heap.size < W3.heap.size := by rw [hW3]; simpa [World.setCell] using zp
      clear hW3 d2 d3 d4 p0 p1 zp
      have c3 := T2.out.c3
      have zg := T2.out.up
      have E0 := (T2.out.below.cell (p := ⟨w.heap.size, 0, none⟩) zW00).trans D0
      have E1 := (T2.out.below.cell (p := ⟨w.heap.size, 1, none⟩) zW00).trans D1
      have ze : w.heap.size < W3.heap.size := by have := T2.out.below.size; omega
      go_wp2_with fail
      refine wp_region_BT 7 (fun W => Below (W3).heap.size (W3) W) (by kernel_rfl) (by kernel_rfl) (by repeat (first | exact Below.refl _ _ | apply Below.drew)) ?_
      simp only [List.take_succ_cons, List.take_zero, List.drop_succ_cons, List.drop_zero]
      first | refine wpH_skip (by rfl) ?_ | (refine wpH_text (v := ?_) (by rfl) (fun W k1 => ?_) ?_; rotate_left; (obtain ⟨hc1, hf1⟩ := bcell k1;  go_simp; refine comes_v ?_; exact k1))
      (try simp only [Act.put, List.setIfInBounds_toArray, List.set_cons_zero, List.set_cons_succ])
      first | refine wpH_skip (by rfl) ?_ | (refine wpH_text (v := ?_) (by rfl) (fun W k1 => ?_) ?_; rotate_left; (obtain ⟨hc1, hf1⟩ := bcell k1;  go_simp; refine comes_v ?_; exact k1))
      (try simp only [Act.put, List.setIfInBounds_toArray, List.set_cons_zero, List.set_cons_succ])
      first | refine wpH_skip (by rfl) ?_ | (refine wpH_text (v := ?_) (by rfl) (fun W k1 => ?_) ?_; rotate_left; (obtain ⟨hc1, hf1⟩ := bcell k1;  go_simp; refine comes_v ?_; exact k1))
      (try simp only [Act.put, List.setIfInBounds_toArray, List.set_cons_zero, List.set_cons_succ])
      first | refine wpH_skip (by rfl) ?_ | (refine wpH_text (v := ?_) (by rfl) (fun W k1 => ?_) ?_; rotate_left; (obtain ⟨hc1, hf1⟩ := bcell k1;  go_simp; refine comes_v ?_; exact k1))
      (try simp only [Act.put, List.setIfInBounds_toArray, List.set_cons_zero, List.set_cons_succ])
      first | refine wpH_skip (by rfl) ?_ | (refine wpH_text (v := .int .i64 z) (by rfl) (fun W k1 => ?_) ?_; (obtain ⟨hc1, hf1⟩ := bcell k1;  go_simp; exact comes_c ( K1.out _) (fun wn hbn => k1.trans (hbn.mono k1.size))))
      (try simp only [Act.put, List.setIfInBounds_toArray, List.set_cons_zero, List.set_cons_succ])
      first | refine wpH_skip (by rfl) ?_ | (refine wpH_text (v := ?_) (by rfl) (fun W k1 => ?_) ?_; rotate_left; (obtain ⟨hc1, hf1⟩ := bcell k1;  go_simp; refine comes_v ?_; exact k1))
      (try simp only [Act.put, List.setIfInBounds_toArray, List.set_cons_zero, List.set_cons_succ])
      first | refine wpH_skip (by rfl) ?_ | (refine wpH_text (v := ?_) (by rfl) (fun W k1 => ?_) ?_; rotate_left; (obtain ⟨hc1, hf1⟩ := bcell k1;  go_simp; refine comes_v ?_; exact k1))
      (try simp only [Act.put, List.setIfInBounds_toArray, List.set_cons_zero, List.set_cons_succ])
      refine wpH_nil ?_
      intro W k1; obtain ⟨hc1, hf1⟩ := bcell k1
      have T4 := Lib.hid (spn_b (spn_below T2.out k1) (max hi z))
      have d2 := (spn_below T2.out k1).c3
      have d3 := (spn_below T2.out k1).fz 3
      have d4 := (spn_below T2.out k1).up
      clear hc1 hf1 k1 c3 zg E0 E1 ze p0' p1' zp3 T2
      go_wp2_with fail
      try simp only [mx]
      go_roundg (n - (k + 1))
      case measure => have := HGK.out; omega
      case rel => exact ⟨k + 1, by omega, rfl, by go_num, Lib.hid (by rw [s1, s2]; exact T4.out)⟩
    · obtain rfl : k = n := by omega
      obtain ⟨t1, t2, t3, t4, t5, t6, t7, t8⟩ := hT.out
      have r0 := (t1.cell (p := ⟨w.heap.size + 1, 0, none⟩) zW01).trans yW01_0
      have r1 := (t1.cell (p := ⟨w.heap.size + 1, 1, none⟩) zW01).trans yW01_1
      have r2 := (t1.cell (p := ⟨w.heap.size + 1, 2, none⟩) zW01).trans yW01_2
      have r3 := (t1.cell (p := ⟨w.heap.size + 1, 3, none⟩) zW01).trans yW01_3
      have q0 := (t1.frozen (p := ⟨w.heap.size + 1, 0, none⟩) zW01).trans (fW01 0)
      have q1 := (t1.frozen (p := ⟨w.heap.size + 1, 1, none⟩) zW01).trans (fW01 1)
      have q2 := (t1.frozen (p := ⟨w.heap.size + 1, 2, none⟩) zW01).trans (fW01 2)
      have q3 := (t1.frozen (p := ⟨w.heap.size + 1, 3, none⟩) zW01).trans (fW01 3)
      have zr : w.heap.size + 1 < wo.heap.size := by have := t1.size; omega
      have BB : Below w.heap.size w wo := BW0.trans (t1.mono BW0.size)
      have zz := BB.size
      clear hT D0 D1 yW00_0 yW00_1 yW01_0 yW01_1 yW01_2 yW01_3 fW00 fW01
      go_wp2_with fail
      refine bodyPost_ret (v := .agg #[.int .i64 u, .int .i64 v, .int .i64 (loW l u v k), .int .i64 (hiW l u v k)]) (by simp [results, Try.results63, go_sem, r0, r1, r2, r3, zr]) rfl ⟨rfl, ?_⟩
      repeat (first | with_reducible assumption | with_reducible exact Below.refl _ _ | with_reducible apply Below.drew | ((with_reducible refine Below.setCell ?_ ?_ _); rotate_left; (first | exact Nat.le_refl _ | omega | (simp <;> omega))) | ((with_reducible refine Below.alloc ?_ ?_ _); rotate_left; (first | omega | (simp <;> omega))))
end Go.Proofs.Ytheddoinnakneaa
/- contracts: WidthIn, the program -/
namespace Go.Proofs.Ytheddoinnakneaa
open Go.ChangeShapes Go.WideShapes Go.ChangeAt Go.RowKit Go.Joins
set_option linter.unusedVariables false
set_option linter.unusedSimpArgs false
set_option maxRecDepth 4000
theorem isReduced_any (u v : Int) (w : World) (h1 : -20000 ≤ u) (h2 : u ≤ 20000) (h3 : -20000 ≤ v) (h4 : v ≤ 20000) :
    Calls Try.prog 112 #[.agg #[.int .i64 u, .int .i64 v]] w fun e w' => e = .returned (.bool (decide (Nat.gcd u.natAbs v.natAbs = 1))) ∧ Below w.heap.size w w' := by
  have KG := Lib.hid (fun W => greatestDivisor_any u v W (by omega) (by omega) (by omega) (by omega))
  obtain ⟨g, hgd⟩ : ∃ g, g = Nat.gcd u.natAbs v.natAbs := ⟨_, rfl⟩
  have hq : Hid (decide (Nat.gcd u.natAbs v.natAbs = 1) = ((g : Int) == 1)) := Lib.hid (by
        have hc : ((g : Int) == 1) = decide (g = 1) := by by_cases h : g = 1 <;> simp [h] <;> omega
        rw [hc]; subst hgd; simp only [decide_eq_decide])
  rw [← hgd] at KG
  clear hgd
  go_enter Try.func112, Try.ntmps112
  go_wp2_with fail
  obtain ⟨W0, hW0⟩ : ∃ W0, W0 = (w.alloc (.cells #[.int .i64 u, .int .i64 v] 66)) := ⟨_, rfl⟩
  rw [← hW0]
  have yW00_0 : W0.cell? ⟨w.heap.size, 0, none⟩ = some (.int .i64 u) := by rw [hW0]; go_simp
  have yW00_1 : W0.cell? ⟨w.heap.size, 1, none⟩ = some (.int .i64 v) := by rw [hW0]; go_simp
  have fW00 : ∀ o, W0.frozen? ⟨w.heap.size, o, none⟩ = false := by intro o; rw [hW0]; (repeat rw [frozen?_alloc_cells]); simp [World.frozen?]
  have zW00 : w.heap.size < W0.heap.size := by rw [hW0]; simp <;> omega
  have BW0 : Below w.heap.size w W0 := by rw [hW0]; exact (Below.alloc (Below.refl _ _) (by simp <;> omega) _)
  have eW0 : Hid (W0.heap.size = w.heap.size + 1) := Lib.hid (by rw [hW0]; simp)
  clear hW0
  refine (KG.out _).mono ?_; rintro e w1 ⟨rfl, hb1⟩
  go_wp2_with fail
  go_ret
  exact ⟨ret_bool (by rw [hq.out]), BW0.trans (hb1.mono BW0.size)⟩
theorem width_any (u v a b : Int) (w : World) (h1 : -1600000 ≤ a) (h2 : a ≤ 1600000) (h3 : -1600000 ≤ b) (h4 : b ≤ 1600000) :
    Calls Try.prog 57 #[.agg #[.int .i64 u, .int .i64 v, .int .i64 a, .int .i64 b]] w fun e w' => e = .returned (.int .i64 (b - a)) ∧ Below w.heap.size w w' := by
  have i1 : IntKind.i64.wrap (b - a) = b - a := IntWalk.i64_in _ (by omega)
  go_enter Try.func57, Try.ntmps57
  go_wp2_with fail
  go_ret
  exact ⟨rfl, (by repeat (first | exact Below.refl _ _ | assumption | apply Below.drew | refine Below.alloc ?_ (by simp <;> omega) _))⟩
noncomputable def spV (l : List (Int × Int)) (u v : Int) : Value := if okW l u v = true then .agg #[.int .i64 u, .int .i64 v, .int .i64 (loW l u v l.length), .int .i64 (hiW l u v l.length)] else .agg #[.int .i64 0, .int .i64 0, .int .i64 0, .int .i64 0]
theorem spV_t {l : List (Int × Int)} {u v : Int} (h : okW l u v = true) : spV l u v = .agg #[.int .i64 u, .int .i64 v, .int .i64 (loW l u v l.length), .int .i64 (hiW l u v l.length)] := by unfold spV; rw [if_pos h]
theorem spV_f {l : List (Int × Int)} {u v : Int} (h : okW l u v = false) : spV l u v = .agg #[.int .i64 0, .int .i64 0, .int .i64 0, .int .i64 0] := by unfold spV; rw [h]; rfl
theorem isOfSize_200 (n : Int) (w : World) : Calls Try.prog 111 #[.int .i64 n, .int .i64 200] w fun e w' => e = .returned (.bool (decide (-200 ≤ n) && decide (n ≤ 200))) ∧ w = w' := isOfSize_any n 200 w (by omega) (by omega)
set_option maxHeartbeats 4000000 in
theorem spanIn_any (A : Option Addr) (c : Nat) (l : List (Int × Int)) (u v : Int) (w : World) (hn : l.length ≤ 1048576) (hR : Rd w w.heap.size A l) :
    Calls Try.prog 70 #[.slice A l.length c, .int .i64 u, .int .i64 v] w fun e w' => e = .returned (.tuple #[spV l u v, .bool (okW l u v)]) ∧ Below w.heap.size w w' := by
  have K := Lib.hid (fun (W : World) (hb : Below w.heap.size w W) => implIsPolygon_any A c l W hn (rd_more (rd_below hR hb (Nat.le_refl _)) hb.size))
  have KU := Lib.hid (fun W => isOfSize_200 u W)
  have KV := Lib.hid (fun W => isOfSize_200 v W)
  by_cases hg : goodB l = true
  rotate_left
  · have hgf : goodB l = false := by simpa using hg
    have ho : okW l u v = false := by unfold okW; rw [hgf]; rfl
    rw [spV_f ho, ho]
    rw [hgf] at K
    clear hg hgf ho hR
    go_enter Try.func70, Try.ntmps70
    go_wp2_with fail
    obtain ⟨W0, hW0⟩ : ∃ W0, W0 = ((w.alloc (.cells #[.int .i64 0, .int .i64 0, .int .i64 0, .int .i64 0] 68)).alloc (.cells #[.int .i64 u, .int .i64 v] 66)) := ⟨_, rfl⟩
    rw [← hW0]
    have yW00_0 : W0.cell? ⟨w.heap.size, 0, none⟩ = some (.int .i64 0) := by rw [hW0]; go_simp
    have yW00_1 : W0.cell? ⟨w.heap.size, 1, none⟩ = some (.int .i64 0) := by rw [hW0]; go_simp
    have yW00_2 : W0.cell? ⟨w.heap.size, 2, none⟩ = some (.int .i64 0) := by rw [hW0]; go_simp
    have yW00_3 : W0.cell? ⟨w.heap.size, 3, none⟩ = some (.int .i64 0) := by rw [hW0]; go_simp
    have fW00 : ∀ o, W0.frozen? ⟨w.heap.size, o, none⟩ = false := by intro o; rw [hW0]; (repeat rw [frozen?_alloc_cells]); simp [World.frozen?]
    have zW00 : w.heap.size < W0.heap.size := by rw [hW0]; simp <;> omega
    have yW01_0 : W0.cell? ⟨w.heap.size + 1, 0, none⟩ = some (.int .i64 u) := by rw [hW0]; go_simp
    have yW01_1 : W0.cell? ⟨w.heap.size + 1, 1, none⟩ = some (.int .i64 v) := by rw [hW0]; go_simp
    have fW01 : ∀ o, W0.frozen? ⟨w.heap.size + 1, o, none⟩ = false := by intro o; rw [hW0]; (repeat rw [frozen?_alloc_cells]); simp [World.frozen?]
    have zW01 : w.heap.size + 1 < W0.heap.size := by rw [hW0]; simp <;> omega
    have BW0 : Below w.heap.size w W0 := by rw [hW0]; exact (Below.alloc (Below.alloc (Below.refl _ _) (by simp <;> omega) _) (by simp <;> omega) _)
    have eW0 : Hid (W0.heap.size = w.heap.size + 2) := Lib.hid (by rw [hW0]; simp)
    clear hW0
    refine (K.out _ BW0).mono ?_; rintro e w1 ⟨rfl, hb1⟩
    have B1 := BW0.trans (hb1.mono BW0.size)
    have r0 := (hb1.cell (p := ⟨w.heap.size, 0, none⟩) zW00).trans yW00_0
    have r1 := (hb1.cell (p := ⟨w.heap.size, 1, none⟩) zW00).trans yW00_1
    have r2 := (hb1.cell (p := ⟨w.heap.size, 2, none⟩) zW00).trans yW00_2
    have r3 := (hb1.cell (p := ⟨w.heap.size, 3, none⟩) zW00).trans yW00_3
    have q0 := (hb1.frozen (p := ⟨w.heap.size, 0, none⟩) zW00).trans (fW00 0)
    have q1 := (hb1.frozen (p := ⟨w.heap.size, 1, none⟩) zW00).trans (fW00 1)
    have q2 := (hb1.frozen (p := ⟨w.heap.size, 2, none⟩) zW00).trans (fW00 2)
    have q3 := (hb1.frozen (p := ⟨w.heap.size, 3, none⟩) zW00).trans (fW00 3)
    have d0 := (hb1.cell (p := ⟨w.heap.size + 1, 0, none⟩) zW01).trans yW01_0
    have d1 := (hb1.cell (p := ⟨w.heap.size + 1, 1, none⟩) zW01).trans yW01_1
    have v0 : w.heap.size < w1.heap.size := by have := hb1.size; omega
    have v1 : w.heap.size + 1 < w1.heap.size := by have := hb1.size; omega
    have zz := B1.size
    clear yW00_0 yW00_1 yW00_2 yW00_3 yW01_0 yW01_1 fW00 fW01 zW00 zW01 BW0 hb1 K
    go_wp2_with fail
    refine bodyPost_ret (v := .tuple #[.agg #[.int .i64 0, .int .i64 0, .int .i64 0, .int .i64 0], .bool false]) (by simp [results, Try.results70, go_sem, r0, r1, r2, r3, v0]) rfl ⟨rfl, ?_⟩
    repeat (first | with_reducible assumption | with_reducible exact Below.refl _ _ | with_reducible apply Below.drew | ((with_reducible refine Below.setCell ?_ ?_ _); rotate_left; (first | exact Nat.le_refl _ | omega | (simp <;> omega))) | ((with_reducible refine Below.alloc ?_ ?_ _); rotate_left; (first | omega | (simp <;> omega))))
  have hgg : Good l := by unfold goodB at hg; simpa using hg
  by_cases hu : (decide (-200 ≤ u) && decide (u ≤ 200)) = true
  rotate_left
  · have huf : (decide (-200 ≤ u) && decide (u ≤ 200)) = false := by simpa using hu
    have ho : okW l u v = false := by unfold okW dirB; rw [huf]; simp
    rw [spV_f ho, ho]
    rw [hg] at K
    rw [huf] at KU
    clear hg hgg hu huf ho hR
    go_enter Try.func70, Try.ntmps70
    go_wp2_with fail
    obtain ⟨W0, hW0⟩ : ∃ W0, W0 = ((w.alloc (.cells #[.int .i64 0, .int .i64 0, .int .i64 0, .int .i64 0] 68)).alloc (.cells #[.int .i64 u, .int .i64 v] 66)) := ⟨_, rfl⟩
    rw [← hW0]
    have yW00_0 : W0.cell? ⟨w.heap.size, 0, none⟩ = some (.int .i64 0) := by rw [hW0]; go_simp
    have yW00_1 : W0.cell? ⟨w.heap.size, 1, none⟩ = some (.int .i64 0) := by rw [hW0]; go_simp
    have yW00_2 : W0.cell? ⟨w.heap.size, 2, none⟩ = some (.int .i64 0) := by rw [hW0]; go_simp
    have yW00_3 : W0.cell? ⟨w.heap.size, 3, none⟩ = some (.int .i64 0) := by rw [hW0]; go_simp
    have fW00 : ∀ o, W0.frozen? ⟨w.heap.size, o, none⟩ = false := by intro o; rw [hW0]; (repeat rw [frozen?_alloc_cells]); simp [World.frozen?]
    have zW00 : w.heap.size < W0.heap.size := by rw [hW0]; simp <;> omega
    have yW01_0 : W0.cell? ⟨w.heap.size + 1, 0, none⟩ = some (.int .i64 u) := by rw [hW0]; go_simp
    have yW01_1 : W0.cell? ⟨w.heap.size + 1, 1, none⟩ = some (.int .i64 v) := by rw [hW0]; go_simp
    have fW01 : ∀ o, W0.frozen? ⟨w.heap.size + 1, o, none⟩ = false := by intro o; rw [hW0]; (repeat rw [frozen?_alloc_cells]); simp [World.frozen?]
    have zW01 : w.heap.size + 1 < W0.heap.size := by rw [hW0]; simp <;> omega
    have BW0 : Below w.heap.size w W0 := by rw [hW0]; exact (Below.alloc (Below.alloc (Below.refl _ _) (by simp <;> omega) _) (by simp <;> omega) _)
    have eW0 : Hid (W0.heap.size = w.heap.size + 2) := Lib.hid (by rw [hW0]; simp)
    clear hW0
    refine (K.out _ BW0).mono ?_; rintro e w1 ⟨rfl, hb1⟩
    have B1 := BW0.trans (hb1.mono BW0.size)
    have r0 := (hb1.cell (p := ⟨w.heap.size, 0, none⟩) zW00).trans yW00_0
    have r1 := (hb1.cell (p := ⟨w.heap.size, 1, none⟩) zW00).trans yW00_1
    have r2 := (hb1.cell (p := ⟨w.heap.size, 2, none⟩) zW00).trans yW00_2
    have r3 := (hb1.cell (p := ⟨w.heap.size, 3, none⟩) zW00).trans yW00_3
    have q0 := (hb1.frozen (p := ⟨w.heap.size, 0, none⟩) zW00).trans (fW00 0)
    have q1 := (hb1.frozen (p := ⟨w.heap.size, 1, none⟩) zW00).trans (fW00 1)
    have q2 := (hb1.frozen (p := ⟨w.heap.size, 2, none⟩) zW00).trans (fW00 2)
    have q3 := (hb1.frozen (p := ⟨w.heap.size, 3, none⟩) zW00).trans (fW00 3)
    have d0 := (hb1.cell (p := ⟨w.heap.size + 1, 0, none⟩) zW01).trans yW01_0
    have d1 := (hb1.cell (p := ⟨w.heap.size + 1, 1, none⟩) zW01).trans yW01_1
    have v0 : w.heap.size < w1.heap.size := by have := hb1.size; omega
    have v1 : w.heap.size + 1 < w1.heap.size := by have := hb1.size; omega
    have zz := B1.size
    clear yW00_0 yW00_1 yW00_2 yW00_3 yW01_0 yW01_1 fW00 fW01 zW00 zW01 BW0 hb1 K
    go_wp2_with fail
    refine (KU.out _).mono ?_; rintro e _ ⟨rfl, rfl⟩
    go_wp2_with fail
    refine bodyPost_ret (v := .tuple #[.agg #[.int .i64 0, .int .i64 0, .int .i64 0, .int .i64 0], .bool false]) (by simp [results, Try.results70, go_sem, r0, r1, r2, r3, v0]) rfl ⟨rfl, ?_⟩
    repeat (first | with_reducible assumption | with_reducible exact Below.refl _ _ | with_reducible apply Below.drew | ((with_reducible refine Below.setCell ?_ ?_ _); rotate_left; (first | exact Nat.le_refl _ | omega | (simp <;> omega))) | ((with_reducible refine Below.alloc ?_ ?_ _); rotate_left; (first | omega | (simp <;> omega))))
  by_cases hv : (decide (-200 ≤ v) && decide (v ≤ 200)) = true
  rotate_left
  · have hvf : (decide (-200 ≤ v) && decide (v ≤ 200)) = false := by simpa using hv
    have ho : okW l u v = false := by unfold okW dirB; rw [hvf]; simp
    rw [spV_f ho, ho]
    rw [hg] at K
    rw [hu] at KU
    rw [hvf] at KV
    clear hg hgg hu hv hvf ho hR
    go_enter Try.func70, Try.ntmps70
    go_wp2_with fail
    obtain ⟨W0, hW0⟩ : ∃ W0, W0 = ((w.alloc (.cells #[.int .i64 0, .int .i64 0, .int .i64 0, .int .i64 0] 68)).alloc (.cells #[.int .i64 u, .int .i64 v] 66)) := ⟨_, rfl⟩
    rw [← hW0]
    have yW00_0 : W0.cell? ⟨w.heap.size, 0, none⟩ = some (.int .i64 0) := by rw [hW0]; go_simp
    have yW00_1 : W0.cell? ⟨w.heap.size, 1, none⟩ = some (.int .i64 0) := by rw [hW0]; go_simp
    have yW00_2 : W0.cell? ⟨w.heap.size, 2, none⟩ = some (.int .i64 0) := by rw [hW0]; go_simp
    have yW00_3 : W0.cell? ⟨w.heap.size, 3, none⟩ = some (.int .i64 0) := by rw [hW0]; go_simp
    have fW00 : ∀ o, W0.frozen? ⟨w.heap.size, o, none⟩ = false := by intro o; rw [hW0]; (repeat rw [frozen?_alloc_cells]); simp [World.frozen?]
    have zW00 : w.heap.size < W0.heap.size := by rw [hW0]; simp <;> omega
    have yW01_0 : W0.cell? ⟨w.heap.size + 1, 0, none⟩ = some (.int .i64 u) := by rw [hW0]; go_simp
    have yW01_1 : W0.cell? ⟨w.heap.size + 1, 1, none⟩ = some (.int .i64 v) := by rw [hW0]; go_simp
    have fW01 : ∀ o, W0.frozen? ⟨w.heap.size + 1, o, none⟩ = false := by intro o; rw [hW0]; (repeat rw [frozen?_alloc_cells]); simp [World.frozen?]
    have zW01 : w.heap.size + 1 < W0.heap.size := by rw [hW0]; simp <;> omega
    have BW0 : Below w.heap.size w W0 := by rw [hW0]; exact (Below.alloc (Below.alloc (Below.refl _ _) (by simp <;> omega) _) (by simp <;> omega) _)
    have eW0 : Hid (W0.heap.size = w.heap.size + 2) := Lib.hid (by rw [hW0]; simp)
    clear hW0
    refine (K.out _ BW0).mono ?_; rintro e w1 ⟨rfl, hb1⟩
    have B1 := BW0.trans (hb1.mono BW0.size)
    have r0 := (hb1.cell (p := ⟨w.heap.size, 0, none⟩) zW00).trans yW00_0
    have r1 := (hb1.cell (p := ⟨w.heap.size, 1, none⟩) zW00).trans yW00_1
    have r2 := (hb1.cell (p := ⟨w.heap.size, 2, none⟩) zW00).trans yW00_2
    have r3 := (hb1.cell (p := ⟨w.heap.size, 3, none⟩) zW00).trans yW00_3
    have q0 := (hb1.frozen (p := ⟨w.heap.size, 0, none⟩) zW00).trans (fW00 0)
    have q1 := (hb1.frozen (p := ⟨w.heap.size, 1, none⟩) zW00).trans (fW00 1)
    have q2 := (hb1.frozen (p := ⟨w.heap.size, 2, none⟩) zW00).trans (fW00 2)
    have q3 := (hb1.frozen (p := ⟨w.heap.size, 3, none⟩) zW00).trans (fW00 3)
    have d0 := (hb1.cell (p := ⟨w.heap.size + 1, 0, none⟩) zW01).trans yW01_0
    have d1 := (hb1.cell (p := ⟨w.heap.size + 1, 1, none⟩) zW01).trans yW01_1
    have v0 : w.heap.size < w1.heap.size := by have := hb1.size; omega
    have v1 : w.heap.size + 1 < w1.heap.size := by have := hb1.size; omega
    have zz := B1.size
    clear yW00_0 yW00_1 yW00_2 yW00_3 yW01_0 yW01_1 fW00 fW01 zW00 zW01 BW0 hb1 K
    go_wp2_with fail
    refine (KU.out _).mono ?_; rintro e _ ⟨rfl, rfl⟩
    go_wp2_with fail
    refine (KV.out _).mono ?_; rintro e _ ⟨rfl, rfl⟩
    go_wp2_with fail
    refine bodyPost_ret (v := .tuple #[.agg #[.int .i64 0, .int .i64 0, .int .i64 0, .int .i64 0], .bool false]) (by simp [results, Try.results70, go_sem, r0, r1, r2, r3, v0]) rfl ⟨rfl, ?_⟩
    repeat (first | with_reducible assumption | with_reducible exact Below.refl _ _ | with_reducible apply Below.drew | ((with_reducible refine Below.setCell ?_ ?_ _); rotate_left; (first | exact Nat.le_refl _ | omega | (simp <;> omega))) | ((with_reducible refine Below.alloc ?_ ?_ _); rotate_left; (first | omega | (simp <;> omega))))
  have hu2 := hu
  have hv2 := hv
  simp only [Bool.and_eq_true, decide_eq_true_eq] at hu2 hv2
  have KR := Lib.hid (fun W => isReduced_any u v W (by omega) (by omega) (by omega) (by omega))
  by_cases hc : Nat.gcd u.natAbs v.natAbs = 1
  · have ho : okW l u v = true := by unfold okW dirB; rw [hg, hu, hv]; simp [hc]
    have KS := Lib.hid (fun W (hb : Below w.heap.size w W) => spanOf_any A c l u v W (by omega) (by omega) (by omega) (by omega) hgg (rd_more (rd_below hR hb (Nat.le_refl _)) hb.size))
    rw [spV_t ho, ho]
    rw [hg] at K
    rw [hu] at KU
    rw [hv] at KV
    rw [show decide (Nat.gcd u.natAbs v.natAbs = 1) = true by simp [hc]] at KR
    generalize loW l u v l.length = lo at *
    generalize hiW l u v l.length = hi at *
    clear hg hgg hu hv hu2 hv2 ho hR hc
    go_enter Try.func70, Try.ntmps70
    go_wp2_with fail
    obtain ⟨W0, hW0⟩ : ∃ W0, W0 = ((w.alloc (.cells #[.int .i64 0, .int .i64 0, .int .i64 0, .int .i64 0] 68)).alloc (.cells #[.int .i64 u, .int .i64 v] 66)) := ⟨_, rfl⟩
    rw [← hW0]
    have yW00_0 : W0.cell? ⟨w.heap.size, 0, none⟩ = some (.int .i64 0) := by rw [hW0]; go_simp
    have yW00_1 : W0.cell? ⟨w.heap.size, 1, none⟩ = some (.int .i64 0) := by rw [hW0]; go_simp
    have yW00_2 : W0.cell? ⟨w.heap.size, 2, none⟩ = some (.int .i64 0) := by rw [hW0]; go_simp
    have yW00_3 : W0.cell? ⟨w.heap.size, 3, none⟩ = some (.int .i64 0) := by rw [hW0]; go_simp
    have fW00 : ∀ o, W0.frozen? ⟨w.heap.size, o, none⟩ = false := by intro o; rw [hW0]; (repeat rw [frozen?_alloc_cells]); simp [World.frozen?]
    have zW00 : w.heap.size < W0.heap.size := by rw [hW0]; simp <;> omega
    have yW01_0 : W0.cell? ⟨w.heap.size + 1, 0, none⟩ = some (.int .i64 u) := by rw [hW0]; go_simp
    have yW01_1 : W0.cell? ⟨w.heap.size + 1, 1, none⟩ = some (.int .i64 v) := by rw [hW0]; go_simp
    have fW01 : ∀ o, W0.frozen? ⟨w.heap.size + 1, o, none⟩ = false := by intro o; rw [hW0]; (repeat rw [frozen?_alloc_cells]); simp [World.frozen?]
    have zW01 : w.heap.size + 1 < W0.heap.size := by rw [hW0]; simp <;> omega
    have BW0 : Below w.heap.size w W0 := by rw [hW0]; exact (Below.alloc (Below.alloc (Below.refl _ _) (by simp <;> omega) _) (by simp <;> omega) _)
    have eW0 : Hid (W0.heap.size = w.heap.size + 2) := Lib.hid (by rw [hW0]; simp)
    clear hW0
    refine (K.out _ BW0).mono ?_; rintro e w1 ⟨rfl, hb1⟩
    have B1 := BW0.trans (hb1.mono BW0.size)
    have r0 := (hb1.cell (p := ⟨w.heap.size, 0, none⟩) zW00).trans yW00_0
    have r1 := (hb1.cell (p := ⟨w.heap.size, 1, none⟩) zW00).trans yW00_1
    have r2 := (hb1.cell (p := ⟨w.heap.size, 2, none⟩) zW00).trans yW00_2
    have r3 := (hb1.cell (p := ⟨w.heap.size, 3, none⟩) zW00).trans yW00_3
    have q0 := (hb1.frozen (p := ⟨w.heap.size, 0, none⟩) zW00).trans (fW00 0)
    have q1 := (hb1.frozen (p := ⟨w.heap.size, 1, none⟩) zW00).trans (fW00 1)
    have q2 := (hb1.frozen (p := ⟨w.heap.size, 2, none⟩) zW00).trans (fW00 2)
    have q3 := (hb1.frozen (p := ⟨w.heap.size, 3, none⟩) zW00).trans (fW00 3)
    have d0 := (hb1.cell (p := ⟨w.heap.size + 1, 0, none⟩) zW01).trans yW01_0
    have d1 := (hb1.cell (p := ⟨w.heap.size + 1, 1, none⟩) zW01).trans yW01_1
    have v0 : w.heap.size < w1.heap.size := by have := hb1.size; omega
    have v1 : w.heap.size + 1 < w1.heap.size := by have := hb1.size; omega
    have zz := B1.size
    clear yW00_0 yW00_1 yW00_2 yW00_3 yW01_0 yW01_1 fW00 fW01 zW00 zW01 BW0 hb1 K
    go_wp2_with fail
    refine (KU.out _).mono ?_; rintro e _ ⟨rfl, rfl⟩
    go_wp2_with fail
    refine (KV.out _).mono ?_; rintro e _ ⟨rfl, rfl⟩
    go_wp2_with fail
    refine (KR.out _).mono ?_; rintro e w2 ⟨rfl, hb2⟩
    have r0 := (hb2.cell (p := ⟨w.heap.size, 0, none⟩) v0).trans r0
    have r1 := (hb2.cell (p := ⟨w.heap.size, 1, none⟩) v0).trans r1
    have r2 := (hb2.cell (p := ⟨w.heap.size, 2, none⟩) v0).trans r2
    have r3 := (hb2.cell (p := ⟨w.heap.size, 3, none⟩) v0).trans r3
    have q0 := (hb2.frozen (p := ⟨w.heap.size, 0, none⟩) v0).trans q0
    have q1 := (hb2.frozen (p := ⟨w.heap.size, 1, none⟩) v0).trans q1
    have q2 := (hb2.frozen (p := ⟨w.heap.size, 2, none⟩) v0).trans q2
    have q3 := (hb2.frozen (p := ⟨w.heap.size, 3, none⟩) v0).trans q3
    have d0 := (hb2.cell (p := ⟨w.heap.size + 1, 0, none⟩) v1).trans d0
    have d1 := (hb2.cell (p := ⟨w.heap.size + 1, 1, none⟩) v1).trans d1
    have v1 : w.heap.size + 1 < w2.heap.size := by have := hb2.size; omega
    have v0 : w.heap.size < w2.heap.size := by have := hb2.size; omega
    have B2 := B1.trans (hb2.mono B1.size)
    have zz := B2.size
    clear hb2
    go_wp2_with fail
    refine (KS.out _ B2).mono ?_; rintro e w3 ⟨rfl, hb2⟩
    have r0 := (hb2.cell (p := ⟨w.heap.size, 0, none⟩) v0).trans r0
    have r1 := (hb2.cell (p := ⟨w.heap.size, 1, none⟩) v0).trans r1
    have r2 := (hb2.cell (p := ⟨w.heap.size, 2, none⟩) v0).trans r2
    have r3 := (hb2.cell (p := ⟨w.heap.size, 3, none⟩) v0).trans r3
    have q0 := (hb2.frozen (p := ⟨w.heap.size, 0, none⟩) v0).trans q0
    have q1 := (hb2.frozen (p := ⟨w.heap.size, 1, none⟩) v0).trans q1
    have q2 := (hb2.frozen (p := ⟨w.heap.size, 2, none⟩) v0).trans q2
    have q3 := (hb2.frozen (p := ⟨w.heap.size, 3, none⟩) v0).trans q3
    have d0 := (hb2.cell (p := ⟨w.heap.size + 1, 0, none⟩) v1).trans d0
    have d1 := (hb2.cell (p := ⟨w.heap.size + 1, 1, none⟩) v1).trans d1
    have v1 : w.heap.size + 1 < w3.heap.size := by have := hb2.size; omega
    have v0 : w.heap.size < w3.heap.size := by have := hb2.size; omega
    have B3 := B2.trans (hb2.mono B2.size)
    have zz := B3.size
    clear hb2
    go_wp2_with fail
    refine bodyPost_ret (v := .tuple #[.agg #[.int .i64 u, .int .i64 v, .int .i64 lo, .int .i64 hi], .bool true]) (by simp [results, Try.results70, go_sem, r0, r1, r2, r3, v0]) rfl ⟨rfl, ?_⟩
    repeat (first | with_reducible assumption | with_reducible exact Below.refl _ _ | with_reducible apply Below.drew | ((with_reducible refine Below.setCell ?_ ?_ _); rotate_left; (first | exact Nat.le_refl _ | omega | (simp <;> omega))) | ((with_reducible refine Below.alloc ?_ ?_ _); rotate_left; (first | omega | (simp <;> omega))))
  · have ho : okW l u v = false := by unfold okW dirB; simp [hc]
    rw [spV_f ho, ho]
    rw [hg] at K
    rw [hu] at KU
    rw [hv] at KV
    rw [show decide (Nat.gcd u.natAbs v.natAbs = 1) = false by simp [hc]] at KR
    clear hg hgg hu hv hu2 hv2 ho hR hc
    go_enter Try.func70, Try.ntmps70
    go_wp2_with fail
    obtain ⟨W0, hW0⟩ : ∃ W0, W0 = ((w.alloc (.cells #[.int .i64 0, .int .i64 0, .int .i64 0, .int .i64 0] 68)).alloc (.cells #[.int .i64 u, .int .i64 v] 66)) := ⟨_, rfl⟩
    rw [← hW0]
    have yW00_0 : W0.cell? ⟨w.heap.size, 0, none⟩ = some (.int .i64 0) := by rw [hW0]; go_simp
    have yW00_1 : W0.cell? ⟨w.heap.size, 1, none⟩ = some (.int .i64 0) := by rw [hW0]; go_simp
    have yW00_2 : W0.cell? ⟨w.heap.size, 2, none⟩ = some (.int .i64 0) := by rw [hW0]; go_simp
    have yW00_3 : W0.cell? ⟨w.heap.size, 3, none⟩ = some (.int .i64 0) := by rw [hW0]; go_simp
    have fW00 : ∀ o, W0.frozen? ⟨w.heap.size, o, none⟩ = false := by intro o; rw [hW0]; (repeat rw [frozen?_alloc_cells]); simp [World.frozen?]
    have zW00 : w.heap.size < W0.heap.size := by rw [hW0]; simp <;> omega
    have yW01_0 : W0.cell? ⟨w.heap.size + 1, 0, none⟩ = some (.int .i64 u) := by rw [hW0]; go_simp
    have yW01_1 : W0.cell? ⟨w.heap.size + 1, 1, none⟩ = some (.int .i64 v) := by rw [hW0]; go_simp
    have fW01 : ∀ o, W0.frozen? ⟨w.heap.size + 1, o, none⟩ = false := by intro o; rw [hW0]; (repeat rw [frozen?_alloc_cells]); simp [World.frozen?]
    have zW01 : w.heap.size + 1 < W0.heap.size := by rw [hW0]; simp <;> omega
    have BW0 : Below w.heap.size w W0 := by rw [hW0]; exact (Below.alloc (Below.alloc (Below.refl _ _) (by simp <;> omega) _) (by simp <;> omega) _)
    have eW0 : Hid (W0.heap.size = w.heap.size + 2) := Lib.hid (by rw [hW0]; simp)
    clear hW0
    refine (K.out _ BW0).mono ?_; rintro e w1 ⟨rfl, hb1⟩
    have B1 := BW0.trans (hb1.mono BW0.size)
    have r0 := (hb1.cell (p := ⟨w.heap.size, 0, none⟩) zW00).trans yW00_0
    have r1 := (hb1.cell (p := ⟨w.heap.size, 1, none⟩) zW00).trans yW00_1
    have r2 := (hb1.cell (p := ⟨w.heap.size, 2, none⟩) zW00).trans yW00_2
    have r3 := (hb1.cell (p := ⟨w.heap.size, 3, none⟩) zW00).trans yW00_3
    have q0 := (hb1.frozen (p := ⟨w.heap.size, 0, none⟩) zW00).trans (fW00 0)
    have q1 := (hb1.frozen (p := ⟨w.heap.size, 1, none⟩) zW00).trans (fW00 1)
    have q2 := (hb1.frozen (p := ⟨w.heap.size, 2, none⟩) zW00).trans (fW00 2)
    have q3 := (hb1.frozen (p := ⟨w.heap.size, 3, none⟩) zW00).trans (fW00 3)
    have d0 := (hb1.cell (p := ⟨w.heap.size + 1, 0, none⟩) zW01).trans yW01_0
    have d1 := (hb1.cell (p := ⟨w.heap.size + 1, 1, none⟩) zW01).trans yW01_1
    have v0 : w.heap.size < w1.heap.size := by have := hb1.size; omega
    have v1 : w.heap.size + 1 < w1.heap.size := by have := hb1.size; omega
    have zz := B1.size
    clear yW00_0 yW00_1 yW00_2 yW00_3 yW01_0 yW01_1 fW00 fW01 zW00 zW01 BW0 hb1 K
    go_wp2_with fail
    refine (KU.out _).mono ?_; rintro e _ ⟨rfl, rfl⟩
    go_wp2_with fail
    refine (KV.out _).mono ?_; rintro e _ ⟨rfl, rfl⟩
    go_wp2_with fail
    refine (KR.out _).mono ?_; rintro e w2 ⟨rfl, hb2⟩
    have r0 := (hb2.cell (p := ⟨w.heap.size, 0, none⟩) v0).trans r0
    have r1 := (hb2.cell (p := ⟨w.heap.size, 1, none⟩) v0).trans r1
    have r2 := (hb2.cell (p := ⟨w.heap.size, 2, none⟩) v0).trans r2
    have r3 := (hb2.cell (p := ⟨w.heap.size, 3, none⟩) v0).trans r3
    have q0 := (hb2.frozen (p := ⟨w.heap.size, 0, none⟩) v0).trans q0
    have q1 := (hb2.frozen (p := ⟨w.heap.size, 1, none⟩) v0).trans q1
    have q2 := (hb2.frozen (p := ⟨w.heap.size, 2, none⟩) v0).trans q2
    have q3 := (hb2.frozen (p := ⟨w.heap.size, 3, none⟩) v0).trans q3
    have d0 := (hb2.cell (p := ⟨w.heap.size + 1, 0, none⟩) v1).trans d0
    have d1 := (hb2.cell (p := ⟨w.heap.size + 1, 1, none⟩) v1).trans d1
    have v1 : w.heap.size + 1 < w2.heap.size := by have := hb2.size; omega
    have v0 : w.heap.size < w2.heap.size := by have := hb2.size; omega
    have B2 := B1.trans (hb2.mono B1.size)
    have zz := B2.size
    clear hb2
    go_wp2_with fail
    refine bodyPost_ret (v := .tuple #[.agg #[.int .i64 0, .int .i64 0, .int .i64 0, .int .i64 0], .bool false]) (by simp [results, Try.results70, go_sem, r0, r1, r2, r3, v0]) rfl ⟨rfl, ?_⟩
    repeat (first | with_reducible assumption | with_reducible exact Below.refl _ _ | with_reducible apply Below.drew | ((with_reducible refine Below.setCell ?_ ?_ _); rotate_left; (first | exact Nat.le_refl _ | omega | (simp <;> omega))) | ((with_reducible refine Below.alloc ?_ ?_ _); rotate_left; (first | omega | (simp <;> omega))))
theorem implWidthIn_any (A : Option Addr) (c : Nat) (l : List (Int × Int)) (u v : Int) (w : World) (hn : l.length ≤ 1048576) (hR : Rd w w.heap.size A l) :
    Calls Try.prog 51 #[.slice A l.length c, .int .i64 u, .int .i64 v] w fun e w' => e = .returned (.tuple #[.int .i64 (wdS l u v), .bool (okW l u v)]) ∧ Below w.heap.size w w' := by
  have K := Lib.hid (spanIn_any A c l u v w hn hR)
  have hx : ∃ a b x y : Int, spV l u v = .agg #[.int .i64 x, .int .i64 y, .int .i64 a, .int .i64 b] ∧ wdS l u v = b - a ∧ -1600000 ≤ a ∧ a ≤ 1600000 ∧ -1600000 ≤ b ∧ b ≤ 1600000 := by
    by_cases hk : okW l u v = true
    · have hk2 : goodB l = true ∧ dirB u v = true := by unfold okW at hk; simpa using hk
      obtain ⟨a1, a2, a3, a4, _⟩ := dirB_t hk2.2
      have hg : Good l := by unfold goodB at hk2; simpa using hk2.1
      have hb := lohi_bd (u := u) (v := v) (by omega) (by omega) (by omega) (by omega) hg.pegs (by have := hg.few; omega) l.length (Nat.le_refl _)
      exact ⟨_, _, _, _, spV_t hk, wdS_t hk, hb.1.1, hb.1.2, hb.2.1.1, hb.2.1.2⟩
    · have hkf : okW l u v = false := by simpa using hk
      exact ⟨0, 0, 0, 0, spV_f hkf, by rw [wdS_f hkf]; rfl, by omega, by omega, by omega, by omega⟩
  obtain ⟨a, b, x, y, e1, e2, a1, a2, b1, b2⟩ := hx
  rw [e1] at K
  rw [e2]
  have KW := Lib.hid (fun W => width_any x y a b W a1 a2 b1 b2)
  generalize okW l u v = ok at *
  clear e1 e2 a1 a2 b1 b2 hR
  go_enter Try.func51, Try.ntmps51
  go_wp2_with fail
  refine K.out.mono ?_; rintro e w1 ⟨rfl, hb1⟩
  go_wp2_with fail
  obtain ⟨W2, hW2⟩ : ∃ W2, W2 = (w1.alloc (.cells #[.int .i64 x, .int .i64 y, .int .i64 a, .int .i64 b] 68)) := ⟨_, rfl⟩
  rw [← hW2]
  have yW20_0 : W2.cell? ⟨w1.heap.size, 0, none⟩ = some (.int .i64 x) := by rw [hW2]; go_simp
  have yW20_1 : W2.cell? ⟨w1.heap.size, 1, none⟩ = some (.int .i64 y) := by rw [hW2]; go_simp
  have yW20_2 : W2.cell? ⟨w1.heap.size, 2, none⟩ = some (.int .i64 a) := by rw [hW2]; go_simp
  have yW20_3 : W2.cell? ⟨w1.heap.size, 3, none⟩ = some (.int .i64 b) := by rw [hW2]; go_simp
  have fW20 : ∀ o, W2.frozen? ⟨w1.heap.size, o, none⟩ = false := by intro o; rw [hW2]; (repeat rw [frozen?_alloc_cells]); simp [World.frozen?]
  have zW20 : w1.heap.size < W2.heap.size := by rw [hW2]; simp <;> omega
  have BW2 : Below w1.heap.size w1 W2 := by rw [hW2]; exact (Below.alloc (Below.refl _ _) (by simp <;> omega) _)
  have eW2 : Hid (W2.heap.size = w1.heap.size + 1) := Lib.hid (by rw [hW2]; simp)
  clear hW2
  have B2 := hb1.trans (BW2.mono hb1.size)
  refine (KW.out _).mono ?_; rintro e w3 ⟨rfl, hb3⟩
  go_wp2_with fail
  go_ret2
  exact ⟨rfl, B2.trans (hb3.mono B2.size)⟩
end Go.Proofs.Ytheddoinnakneaa
/- contract: whether a direction is told, the program -/
namespace Go.Proofs.Ytheddoinnakneaa
open Go.ChangeShapes Go.WideShapes Go.ChangeAt Go.RowKit Go.Joins
set_option linter.unusedVariables false
set_option linter.unusedSimpArgs false
set_option maxRecDepth 4000
theorem isTold_any (u v : Int) (w : World) (h1 : -20000 ≤ u) (h2 : u ≤ 20000) (h3 : -20000 ≤ v) (h4 : v ≤ 20000) :
    Calls Try.prog 95 #[.agg #[.int .i64 u, .int .i64 v]] w fun e w' => e = .returned (.bool (toldB u v)) ∧ Below w.heap.size w w' := by
  have KG := Lib.hid (fun W => isReduced_any u v W h1 h2 h3 h4)
  have hT : toldB u v = ((decide (0 < u) || (decide (u = 0) && decide (v = 1))) && decide (Nat.gcd u.natAbs v.natAbs = 1)) := rfl
  rw [hT]
  generalize decide (Nat.gcd u.natAbs v.natAbs = 1) = g at *
  clear hT h1 h2 h3 h4
  cases g
  · rw [Bool.and_false]
    go_enter Try.func95, Try.ntmps95
    go_wp2_with fail
    obtain ⟨W0, hW0⟩ : ∃ W0, W0 = (w.alloc (.cells #[.int .i64 u, .int .i64 v] 66)) := ⟨_, rfl⟩
    rw [← hW0]
    have yW00_0 : W0.cell? ⟨w.heap.size, 0, none⟩ = some (.int .i64 u) := by rw [hW0]; go_simp
    have yW00_1 : W0.cell? ⟨w.heap.size, 1, none⟩ = some (.int .i64 v) := by rw [hW0]; go_simp
    have fW00 : ∀ o, W0.frozen? ⟨w.heap.size, o, none⟩ = false := by intro o; rw [hW0]; (repeat rw [frozen?_alloc_cells]); simp [World.frozen?]
    have zW00 : w.heap.size < W0.heap.size := by rw [hW0]; simp <;> omega
    have BW0 : Below w.heap.size w W0 := by rw [hW0]; exact (Below.alloc (Below.refl _ _) (by simp <;> omega) _)
    have eW0 : Hid (W0.heap.size = w.heap.size + 1) := Lib.hid (by rw [hW0]; simp)
    clear hW0
    refine (KG.out _).mono ?_; rintro e w1 ⟨rfl, hb1⟩
    go_wp2_with fail
    go_ret
    exact ⟨rfl, BW0.trans (hb1.mono BW0.size)⟩
  · rw [Bool.and_true]
    rcases (show 0 < u ∨ u < 0 ∨ u = 0 by omega) with hu | hu | rfl
    · rw [decide_eq_true hu, Bool.true_or]
      go_enter Try.func95, Try.ntmps95
      go_wp2_with fail
      obtain ⟨W0, hW0⟩ : ∃ W0, W0 = (w.alloc (.cells #[.int .i64 u, .int .i64 v] 66)) := ⟨_, rfl⟩
      rw [← hW0]
      have yW00_0 : W0.cell? ⟨w.heap.size, 0, none⟩ = some (.int .i64 u) := by rw [hW0]; go_simp
      have yW00_1 : W0.cell? ⟨w.heap.size, 1, none⟩ = some (.int .i64 v) := by rw [hW0]; go_simp
      have fW00 : ∀ o, W0.frozen? ⟨w.heap.size, o, none⟩ = false := by intro o; rw [hW0]; (repeat rw [frozen?_alloc_cells]); simp [World.frozen?]
      have zW00 : w.heap.size < W0.heap.size := by rw [hW0]; simp <;> omega
      have BW0 : Below w.heap.size w W0 := by rw [hW0]; exact (Below.alloc (Below.refl _ _) (by simp <;> omega) _)
      have eW0 : Hid (W0.heap.size = w.heap.size + 1) := Lib.hid (by rw [hW0]; simp)
      clear hW0
      refine (KG.out _).mono ?_; rintro e w1 ⟨rfl, hb1⟩
      have q0 := ((bcell hb1).1 _ 0 zW00).trans yW00_0
      have q1 := ((bcell hb1).1 _ 1 zW00).trans yW00_1
      go_wp2_with fail
      go_ret
      exact ⟨rfl, BW0.trans (hb1.mono BW0.size)⟩
    · have hu1 : ¬ 0 < u := by omega
      have hu2 : ¬ u = 0 := by omega
      rw [decide_eq_false hu1, decide_eq_false hu2, Bool.false_and, Bool.false_or]
      clear hu
      go_enter Try.func95, Try.ntmps95
      go_wp2_with fail
      obtain ⟨W0, hW0⟩ : ∃ W0, W0 = (w.alloc (.cells #[.int .i64 u, .int .i64 v] 66)) := ⟨_, rfl⟩
      rw [← hW0]
      have yW00_0 : W0.cell? ⟨w.heap.size, 0, none⟩ = some (.int .i64 u) := by rw [hW0]; go_simp
      have yW00_1 : W0.cell? ⟨w.heap.size, 1, none⟩ = some (.int .i64 v) := by rw [hW0]; go_simp
      have fW00 : ∀ o, W0.frozen? ⟨w.heap.size, o, none⟩ = false := by intro o; rw [hW0]; (repeat rw [frozen?_alloc_cells]); simp [World.frozen?]
      have zW00 : w.heap.size < W0.heap.size := by rw [hW0]; simp <;> omega
      have BW0 : Below w.heap.size w W0 := by rw [hW0]; exact (Below.alloc (Below.refl _ _) (by simp <;> omega) _)
      have eW0 : Hid (W0.heap.size = w.heap.size + 1) := Lib.hid (by rw [hW0]; simp)
      clear hW0
      refine (KG.out _).mono ?_; rintro e w1 ⟨rfl, hb1⟩
      have q0 := ((bcell hb1).1 _ 0 zW00).trans yW00_0
      have q1 := ((bcell hb1).1 _ 1 zW00).trans yW00_1
      go_wp2_with fail
      go_ret
      exact ⟨by first | rfl | exact ret_bool (decide_eq_false (by omega)), BW0.trans (hb1.mono BW0.size)⟩
    · rw [decide_eq_false (show ¬ (0 : Int) < 0 by omega), decide_eq_true (show (0 : Int) = 0 from rfl), Bool.true_and, Bool.false_or]
      go_enter Try.func95, Try.ntmps95
      go_wp2_with fail
      obtain ⟨W0, hW0⟩ : ∃ W0, W0 = (w.alloc (.cells #[.int .i64 0, .int .i64 v] 66)) := ⟨_, rfl⟩
      rw [← hW0]
      have yW00_0 : W0.cell? ⟨w.heap.size, 0, none⟩ = some (.int .i64 0) := by rw [hW0]; go_simp
      have yW00_1 : W0.cell? ⟨w.heap.size, 1, none⟩ = some (.int .i64 v) := by rw [hW0]; go_simp
      have fW00 : ∀ o, W0.frozen? ⟨w.heap.size, o, none⟩ = false := by intro o; rw [hW0]; (repeat rw [frozen?_alloc_cells]); simp [World.frozen?]
      have zW00 : w.heap.size < W0.heap.size := by rw [hW0]; simp <;> omega
      have BW0 : Below w.heap.size w W0 := by rw [hW0]; exact (Below.alloc (Below.refl _ _) (by simp <;> omega) _)
      have eW0 : Hid (W0.heap.size = w.heap.size + 1) := Lib.hid (by rw [hW0]; simp)
      clear hW0
      refine (KG.out _).mono ?_; rintro e w1 ⟨rfl, hb1⟩
      have q0 := ((bcell hb1).1 _ 0 zW00).trans yW00_0
      have q1 := ((bcell hb1).1 _ 1 zW00).trans yW00_1
      go_wp2_with fail
      go_ret
      exact ⟨by first | rfl | simp, BW0.trans (hb1.mono BW0.size)⟩
end Go.Proofs.Ytheddoinnakneaa
/- contracts: points added, and taken several times -/
namespace Go.Proofs.Ytheddoinnakneaa
open Go.ChangeShapes Go.WideShapes Go.ChangeAt Go.RowKit Go.Joins
set_option linter.unusedVariables false
set_option linter.unusedSimpArgs false
set_option maxRecDepth 4000
theorem times_any (a1 a2 n : Int) (w : World) (h1 : -1000000000000000 ≤ a1 * n ∧ a1 * n ≤ 1000000000000000) (h2 : -1000000000000000 ≤ a2 * n ∧ a2 * n ≤ 1000000000000000) :
    Calls Try.prog 128 #[.agg #[.int .i64 a1, .int .i64 a2], .int .i64 n] w fun e w' => e = .returned (.agg #[.int .i64 (a1 * n), .int .i64 (a2 * n)]) ∧ Below w.heap.size w w' := by
  obtain ⟨x1, x2⟩ := h1
  obtain ⟨x3, x4⟩ := h2
  go_enter Try.func128, Try.ntmps128
  go_wp2
  refine bodyPost_ret (v := .agg #[.int .i64 (a1 * n), .int .i64 (a2 * n)]) (by simp [results, Try.results128, go_sem]) rfl ⟨rfl, ?_⟩
  repeat (first | with_reducible assumption | with_reducible exact Below.refl _ _ | with_reducible apply Below.drew | ((with_reducible refine Below.setCell ?_ ?_ _); rotate_left; (first | exact Nat.le_refl _ | omega | (simp <;> omega))) | ((with_reducible refine Below.alloc ?_ ?_ _); rotate_left; (first | omega | (simp <;> omega))))
end Go.Proofs.Ytheddoinnakneaa
/- A statement that leaves its order open and in which one operation writes what no other one reads: one walk through it, in the order of the text. -/
namespace Go.Proofs.Ytheddoinnakneaa
open Go.ChangeShapes Go.WideShapes Go.ChangeAt Go.RowKit Go.Joins
set_option linter.unusedVariables false
set_option linter.unusedSimpArgs false
set_option maxRecDepth 4000
section
variable {P : Program} {ops : Array Oper} {Q : Exit → Act → World → Prop} {md : Region.Mode} {S : Array Bool → World → Prop}
def SteadyL (P : Program) (ops : Array Oper) (S : Array Bool → World → Prop) (i : Nat) (o : Oper) (v : Value) (a : Act) : Prop :=
  (Region.wanted o (yielded ops a.tmps) = true ∧ ∀ L w, L.getD i true = false → S L w → Comes P (S (L.setIfInBounds i true)) v ((execOp a.eval o).run P w)) ∨
  (Region.wanted o (yielded ops a.tmps) = false ∧ v = undef ∧ ∀ L w, S L w → S (L.setIfInBounds i true) w)
theorem steadyL_same {i : Nat} {o : Oper} {v : Value} {a a' : Act} (hy : SteadyL P ops S i o v a) (he : execOp a'.eval o = execOp a.eval o)
    (hw : Region.wanted o (yielded ops a'.tmps) = Region.wanted o (yielded ops a.tmps)) : SteadyL P ops S i o v a' := by
  unfold SteadyL at *; rw [he, hw]; exact hy
theorem steadyL_op {i : Nat} {o : Oper} {v : Value} {a : Act} (hi : ops[i]? = some o) (hy : SteadyL P ops S i o v a) {K : Act → World → Prop} {w : World} {L : Array Bool} (hl : L.getD i true = false) (hS : S L w)
    (h : ∀ w', S (L.setIfInBounds i true) w' → K (a.put o.dst v) w') : wpOp P ops Q i K a w := by
  unfold wpOp
  simp only [hi]
  rcases hy with ⟨hw, hv⟩ | ⟨hw, rfl, hk⟩
  · simp only [hw, if_true]
    left
    have hc := hv L w hl hS
    unfold Oper.wp
    generalize (execOp a.eval o).run P w = r at *
    cases r with
    | ok n w' =>
      cases n with
      | value u => obtain ⟨rfl, h'⟩ := hc; exact h _ h'
      | skip => obtain ⟨rfl, h'⟩ := hc; exact h _ h'
      | enter f args => exact Calls.mono hc fun e w'' he => by obtain ⟨rfl, hs⟩ := he; exact h _ hs
      | _ => exact hc.elim
    | halt x w' => exact hc.elim
  · simp only [hw, Bool.false_eq_true, if_false]
    exact h _ (hk L w hS)
def wpL (P : Program) (md : Region.Mode) (ops : Array Oper) (Q : Exit → Act → World → Prop) (S : Array Bool → World → Prop) : Nat → Array Bool → Act → Prop
  | 0, listed, a => Region.ready md ops listed = [] ∧ ∀ w, S listed w → Q .normal a w
  | fuel + 1, listed, a => (Region.ready md ops listed = [] → ∀ w, S listed w → Q .normal a w) ∧
    ∀ i ∈ Region.ready md ops listed, ∃ oi v, ops[i]? = some oi ∧ SteadyL P ops S i oi v a ∧ wpL P md ops Q S fuel (listed.setIfInBounds i true) (a.put oi.dst v)
theorem wpAny_of_L : ∀ (fuel : Nat) (listed : Array Bool) (a : Act), wpL P md ops Q S fuel listed a → ∀ w, S listed w → wpAny P md ops Q fuel listed a w
  | 0, _, _, h, w, hS => ⟨h.1, h.2 w hS⟩
  | fuel + 1, _, _, h, w, hS => ⟨fun hr => h.1 hr w hS, fun i hi => by
      obtain ⟨oi, v, ho, hy, hn⟩ := h.2 i hi
      exact steadyL_op ho hy (mem_ready.1 hi).1 hS fun w' hS' => wpAny_of_L fuel _ _ hn w' hS'⟩
theorem wpL_first {i : Nat} {oi : Oper} {v : Value} (hi : ops[i]? = some oi) (hsel : ∀ (j : Nat) (o : Oper) cs b, ops[j]? = some o → o.op ≠ .select cs b) :
    ∀ (fuel : Nat) (listed : Array Bool) (a : Act),
      (∀ j oj, ops[j]? = some oj → j ≠ i → listed.getD j true = false → (∀ e ∈ oj.after, Region.binds md e = true → e.on ≠ i) → oi.apart ops oj = true) →
      i ∈ Region.ready md ops listed → SteadyL P ops S i oi v a →
      wpL P md ops Q S fuel (listed.setIfInBounds i true) (a.put oi.dst v) → wpL P md ops Q S (fuel + 1) listed a := by
  intro fuel
  induction fuel with
  | zero =>
    intro listed a _ hr hy H
    refine ⟨fun h => (by rw [h] at hr; cases hr), fun j hj => ?_⟩
    by_cases hji : j = i
    · subst hji; exact ⟨oi, v, hi, hy, H⟩
    · have hm := ready_mono hj hji
      rw [H.1] at hm
      cases hm
  | succ fuel ih =>
    intro listed a hfree hr hy H
    refine ⟨fun h => (by rw [h] at hr; cases hr), fun j hj => ?_⟩
    by_cases hji : j = i
    · subst hji; exact ⟨oi, v, hi, hy, H⟩
    · obtain ⟨oj, u, hoj, hsj, Hj⟩ := H.2 j (ready_mono hj hji)
      obtain ⟨hjun, oj', hoj', hall⟩ := mem_ready.1 hj
      obtain rfl : oj' = oj := Option.some.inj (hoj'.symm.trans hoj)
      have hnot : ∀ e ∈ oj'.after, Region.binds md e = true → e.on ≠ i := fun e he hb heq => by
        have h1 := hall e he hb
        have h0 := (mem_ready.1 hr).1
        rw [heq] at h1
        have : listed.getD i true = listed.getD i false := by
          rcases Nat.lt_or_ge i listed.size with h' | h'
          · simp [h']
          · simp [Array.getElem?_eq_none h'] at h1
        rw [this, h1] at h0
        cases h0
      obtain ⟨h1, h2, h3⟩ := Oper.apart_spec (hfree j oj' hoj hji hjun hnot)
      have k1 : SteadyL P ops S j oj' u a := steadyL_same hsj (execOp_put oj' (fun cs b => hsel j oj' cs b hoj) a oi.dst v h1).symm (wanted_put oj' a oi.dst v h1).symm
      have k2 : SteadyL P ops S i oi v (a.put oj'.dst u) := steadyL_same hy (execOp_put oi (fun cs b => hsel i oi cs b hi) a oj'.dst u h3) (wanted_put oi a oj'.dst u h3)
      refine ⟨oj', u, hoj, k1, ih _ _ (fun k ok hk hki hun hno => ?_) (ready_mono hr (Ne.symm hji)) k2 ?_⟩
      · refine hfree k ok hk hki ?_ hno
        by_cases hjk : j = k
        · subst hjk; exact hjun
        · rw [getD_set_ne true hjk] at hun; exact hun
      · rw [Array.setIfInBounds_comm _ _ hji, ← Act.put_comm a v u h2]
        exact Hj
/-- operation number z turns W1 into W2, as far as block n -/
def Flag (z n : Nat) (W1 W2 : World) (L : Array Bool) (W : World) : Prop := Below n (if L.getD z false = true then W2 else W1) W
theorem wpZ_take {z n i : Nat} {W1 W2 : World} {oi : Oper} {v : Value} {fuel : Nat} {listed : Array Bool} {a : Act} (hi : ops[i]? = some oi) (hs : Region.noSelect ops = true)
    (hf : Region.free md ops listed i = true) (hr : (Region.ready md ops listed).contains i = true) (hy : SteadyL P ops (Flag z n W1 W2) i oi v a)
    (h : wpL P md ops Q (Flag z n W1 W2) fuel (listed.setIfInBounds i true) (a.put oi.dst v)) : wpL P md ops Q (Flag z n W1 W2) (fuel + 1) listed a :=
  wpL_first hi (Region.noSelect_spec hs) fuel listed a (Region.free_spec hi hf) (by simpa using hr) hy h
/-- number i, as it stands in the text; it is not number z -/
theorem wpZ_text {z n : Nat} {W1 W2 : World} (i : Nat) {oi : Oper} {rest : List Oper} {v : Value} {fuel : Nat} {listed : Array Bool} {a : Act} (hi : ops.toList.drop i = oi :: rest) (hs : Region.noSelect ops = true)
    (hf : Region.free md ops listed i = true) (hr : (Region.ready md ops listed).contains i = true) (hw : Region.wanted oi (yielded ops a.tmps) = true) (hz : i ≠ z)
    (h1 : ∀ X, (X = W1 ∨ X = W2) → ∀ w, Below n X w → Comes P (Below n X) v ((execOp a.eval oi).run P w))
    (h : wpL P md ops Q (Flag z n W1 W2) fuel (listed.setIfInBounds i true) (a.put oi.dst v)) : wpL P md ops Q (Flag z n W1 W2) (fuel + 1) listed a :=
  wpZ_take (op_of_drop hi) hs hf hr (Or.inl ⟨hw, fun L w _ hS => by
    have e : Flag z n W1 W2 (L.setIfInBounds i true) = Flag z n W1 W2 L := by unfold Flag; rw [getD_set_ne false hz]
    rw [e]
    unfold Flag at *
    split at hS
    · rename_i hc; simp only [hc, if_true]; exact h1 W2 (.inr rfl) w hS
    · rename_i hc; simp only [hc, if_false]; exact h1 W1 (.inl rfl) w hS⟩) h
theorem wpZ_skip {z n : Nat} {W1 W2 : World} (i : Nat) {oi : Oper} {rest : List Oper} {fuel : Nat} {listed : Array Bool} {a : Act} (hi : ops.toList.drop i = oi :: rest) (hs : Region.noSelect ops = true)
    (hf : Region.free md ops listed i = true) (hr : (Region.ready md ops listed).contains i = true) (hw : Region.wanted oi (yielded ops a.tmps) = false) (hz : i ≠ z)
    (h : wpL P md ops Q (Flag z n W1 W2) fuel (listed.setIfInBounds i true) (a.put oi.dst undef)) : wpL P md ops Q (Flag z n W1 W2) (fuel + 1) listed a :=
  wpZ_take (op_of_drop hi) hs hf hr (Or.inr ⟨hw, rfl, fun L w hS => by unfold Flag at *; rw [getD_set_ne false hz]; exact hS⟩) h
/-- number z itself -/
theorem wpZ_store {z n : Nat} {W1 W2 : World} {oi : Oper} {rest : List Oper} {v : Value} {fuel : Nat} {listed : Array Bool} {a : Act} (hi : ops.toList.drop z = oi :: rest) (hs : Region.noSelect ops = true)
    (hf : Region.free md ops listed z = true) (hr : (Region.ready md ops listed).contains z = true) (hw : Region.wanted oi (yielded ops a.tmps) = true)
    (h1 : ∀ w, Below n W1 w → Comes P (Below n W2) v ((execOp a.eval oi).run P w))
    (h : wpL P md ops Q (Flag z n W1 W2) fuel (listed.setIfInBounds z true) (a.put oi.dst v)) : wpL P md ops Q (Flag z n W1 W2) (fuel + 1) listed a :=
  wpZ_take (op_of_drop hi) hs hf hr (Or.inl ⟨hw, fun L w hl hS => by
    have h0 : L.getD z false = false := getD_both hl
    have h2 : (L.setIfInBounds z true).getD z false = true := by
      rcases Nat.lt_or_ge z L.size with h' | h'
      · simp [h']
      · simp [Array.getElem?_eq_none h'] at hl
    have e : Flag z n W1 W2 (L.setIfInBounds z true) = Below n W2 := by funext W; unfold Flag; rw [h2]; rfl
    rw [e]
    unfold Flag at hS
    rw [h0] at hS
    exact h1 w hS⟩) h
theorem wpZ_done {z n : Nat} {W1 W2 : World} {listed : Array Bool} {a : Act} (hr : Region.ready md ops listed = []) (hz : listed.getD z false = true) (h : ∀ w, Below n W2 w → Q .normal a w) : ∀ fuel, wpL P md ops Q (Flag z n W1 W2) fuel listed a
  | 0 => ⟨hr, fun w hS => h w (by unfold Flag at hS; rw [hz] at hS; exact hS)⟩
  | _ + 1 => ⟨fun _ w hS => h w (by unfold Flag at hS; rw [hz] at hS; exact hS), by rw [hr]; simp⟩
theorem wp_region_Z {id : Nat} {a : Act} {w : World} (z n : Nat) (W1 W2 : World) (hm : P.follows .mixedOrders = true) (hS : Below n W1 w.drew)
    (h : wpL P .any ops Q (Flag z n W1 W2) ops.size (Array.replicate ops.size false) a) : (Code.region id ops true).wp P Q a w :=
  wp_region_any hm (wpAny_of_L _ _ _ h _ (by unfold Flag; rw [getD_replicate_false]; exact hS))
theorem bcellN {n : Nat} {X W : World} (h : Below n X W) : (∀ b o, b < n → W.cell? ⟨b, o, none⟩ = X.cell? ⟨b, o, none⟩) ∧ (∀ b o, b < n → W.frozen? ⟨b, o, none⟩ = X.frozen? ⟨b, o, none⟩) :=
  ⟨fun b o hb => h.cell (p := ⟨b, o, none⟩) hb, fun b o hb => h.frozen (p := ⟨b, o, none⟩) hb⟩
theorem below_set2 {n : Nat} {W1 w : World} (h : Below n W1 w) (p : Addr) (u : Value) (hp : p.block < n) : Below n (W1.setCell p u) (w.setCell p u) :=
  ⟨h.os, h.tape, h.output, by simpa [World.setCell] using h.size, fun k hk => by
    simp only [World.setCell, Array.getElem?_modify]
    rw [h.block k hk]⟩
end
end Go.Proofs.Ytheddoinnakneaa

