/- joined: U5 U6 Ws2 KZ -/
import Derived.Test.YtheddoinnakneaaZSupportOf5
import Derived.BigRegion
import Derived.OwnWalk
import Derived.Laws.Cover1
import Derived.LoopTactic
import Derived.Deep.Slices
import Derived.Deep.Fields
/- contracts: spans, the program -/
namespace Go.Proofs.Ytheddoinnakneaa
open Go.ChangeShapes Go.WideShapes Go.ChangeAt Go.RowKit Go.Joins
set_option linter.unusedVariables false
set_option linter.unusedSimpArgs false
set_option maxRecDepth 4000
theorem value_any (u v : Int) (p : Int × Int) (w : World) (h1 : -20000 ≤ u) (h2 : u ≤ 20000) (h3 : -20000 ≤ v) (h4 : v ≤ 20000) (hp : isPg p = true) :
    Calls Try.prog 76 #[.agg #[.int .i64 u, .int .i64 v], .agg #[.int .i64 p.1, .int .i64 p.2]] w fun e w' => e = .returned (.int .i64 (vlu u v p)) ∧ Below w.heap.size w w' := by
  obtain ⟨⟨p1, p2⟩, p3, p4⟩ := vlu_parts h1 h2 h3 h4 hp
  have i0 : IntKind.i64.wrap (u * p.1) = u * p.1 := IntWalk.i64_in _ (by omega)
  have i1 : IntKind.i64.wrap (v * p.2) = v * p.2 := IntWalk.i64_in _ (by omega)
  have i2 : IntKind.i64.wrap (u * p.1 + v * p.2) = u * p.1 + v * p.2 := IntWalk.i64_in _ (by omega)
  clear h1 h2 h3 h4 hp p1 p2 p3 p4
  go_enter Try.func76, Try.ntmps76
  go_wp2_with fail
  go_ret
  exact ⟨rfl, (by repeat (first | exact Below.refl _ _ | assumption | apply Below.drew | refine Below.alloc ?_ (by simp <;> omega) _))⟩
/-- a span's box, one of our own -/
structure Spn (w wr : World) (g : Nat) (u v a b : Int) : Prop where
  below : Below w.heap.size w wr
  lo : w.heap.size ≤ g
  up : g < wr.heap.size
  c0 : wr.cell? ⟨g, 0, none⟩ = some (.int .i64 u)
  c1 : wr.cell? ⟨g, 1, none⟩ = some (.int .i64 v)
  c2 : wr.cell? ⟨g, 2, none⟩ = some (.int .i64 a)
  c3 : wr.cell? ⟨g, 3, none⟩ = some (.int .i64 b)
  fz : ∀ o, wr.frozen? ⟨g, o, none⟩ = false
theorem spn_below {w wr W : World} {g : Nat} {u v a b : Int} (t : Spn w wr g u v a b) (hb : Below wr.heap.size wr W) : Spn w W g u v a b := by
  obtain ⟨t1, t2, t3, t4, t5, t6, t7, t8⟩ := t
  have hc := (bcell hb).1
  have hf := (bcell hb).2
  have hz := hb.size
  exact ⟨t1.trans (hb.mono t1.size), t2, by omega, (hc _ _ t3).trans t4, (hc _ _ t3).trans t5, (hc _ _ t3).trans t6, (hc _ _ t3).trans t7, fun o => (hf _ _ t3).trans (t8 o)⟩
theorem spn_a {w wr : World} {g : Nat} {u v a b : Int} (t : Spn w wr g u v a b) (x : Int) : Spn w (wr.setCell ⟨g, 2, none⟩ (.int .i64 x)) g u v x b := by
  obtain ⟨t1, t2, t3, t4, t5, t6, t7, t8⟩ := t
  have o : ∀ k, k ≠ 2 → (wr.setCell ⟨g, 2, none⟩ (.int .i64 x)).cell? ⟨g, k, none⟩ = wr.cell? ⟨g, k, none⟩ := fun k hk => World.cell?_setCell_other _ _ _ _ (fun e => hk (by injection e with e1 e2; exact e2.symm))
  exact ⟨t1.setCell t2 _, t2, by simpa [World.setCell] using t3, (o 0 (by omega)).trans t4, (o 1 (by omega)).trans t5, World.cell?_setCell_same _ _ _ t6, (o 3 (by omega)).trans t7, fun k => by rw [World.frozen?_setCell]; exact t8 k⟩
theorem spn_b {w wr : World} {g : Nat} {u v a b : Int} (t : Spn w wr g u v a b) (x : Int) : Spn w (wr.setCell ⟨g, 3, none⟩ (.int .i64 x)) g u v a x := by
  obtain ⟨t1, t2, t3, t4, t5, t6, t7, t8⟩ := t
  have o : ∀ k, k ≠ 3 → (wr.setCell ⟨g, 3, none⟩ (.int .i64 x)).cell? ⟨g, k, none⟩ = wr.cell? ⟨g, k, none⟩ := fun k hk => World.cell?_setCell_other _ _ _ _ (fun e => hk (by injection e with e1 e2; exact e2.symm))
  exact ⟨t1.setCell t2 _, t2, by simpa [World.setCell] using t3, (o 0 (by omega)).trans t4, (o 1 (by omega)).trans t5, (o 2 (by omega)).trans t6, World.cell?_setCell_same _ _ _ t7, fun k => by rw [World.frozen?_setCell]; exact t8 k⟩
theorem spn_new (w w1 : World) (t : TypeId) (h : Below w.heap.size w w1) : Spn w (w1.alloc (.cells #[.int .i64 0, .int .i64 0, .int .i64 0, .int .i64 0] t)) w1.heap.size 0 0 0 0 :=
  ⟨Below.alloc h h.size _, h.size, by simp, by go_simp, by go_simp, by go_simp, by go_simp, fun o => by rw [frozen?_alloc_cells]; simp [World.frozen?]⟩
theorem spn_u {w wr : World} {g : Nat} {u v a b : Int} (t : Spn w wr g u v a b) (x : Int) : Spn w (wr.setCell ⟨g, 0, none⟩ (.int .i64 x)) g x v a b := by
  obtain ⟨t1, t2, t3, t4, t5, t6, t7, t8⟩ := t
  have o : ∀ k, k ≠ 0 → (wr.setCell ⟨g, 0, none⟩ (.int .i64 x)).cell? ⟨g, k, none⟩ = wr.cell? ⟨g, k, none⟩ := fun k hk => World.cell?_setCell_other _ _ _ _ (fun e => hk (by injection e with e1 e2; exact e2.symm))
  exact ⟨t1.setCell t2 _, t2, by simpa [World.setCell] using t3, World.cell?_setCell_same _ _ _ t4, (o 1 (by omega)).trans t5, (o 2 (by omega)).trans t6, (o 3 (by omega)).trans t7, fun k => by rw [World.frozen?_setCell]; exact t8 k⟩
theorem spn_v {w wr : World} {g : Nat} {u v a b : Int} (t : Spn w wr g u v a b) (x : Int) : Spn w (wr.setCell ⟨g, 1, none⟩ (.int .i64 x)) g u x a b := by
  obtain ⟨t1, t2, t3, t4, t5, t6, t7, t8⟩ := t
  have o : ∀ k, k ≠ 1 → (wr.setCell ⟨g, 1, none⟩ (.int .i64 x)).cell? ⟨g, k, none⟩ = wr.cell? ⟨g, k, none⟩ := fun k hk => World.cell?_setCell_other _ _ _ _ (fun e => hk (by injection e with e1 e2; exact e2.symm))
  exact ⟨t1.setCell t2 _, t2, by simpa [World.setCell] using t3, (o 0 (by omega)).trans t4, World.cell?_setCell_same _ _ _ t5, (o 2 (by omega)).trans t6, (o 3 (by omega)).trans t7, fun k => by rw [World.frozen?_setCell]; exact t8 k⟩
theorem spn_sets {w wr : World} {g : Nat} {u v a b : Int} (t : Spn w wr g u v a b) (x0 x1 x2 x3 : Int) : Spn w ((((wr.setCell ⟨g, 0, none⟩ (.int .i64 x0)).setCell ⟨g, 1, none⟩ (.int .i64 x1)).setCell ⟨g, 2, none⟩ (.int .i64 x2)).setCell ⟨g, 3, none⟩ (.int .i64 x3)) g x0 x1 x2 x3 :=
  spn_b (spn_a (spn_v (spn_u t x0) x1) x2) x3
theorem min_if' (x y : Int) : (if y < x then y else x) = min x y := by omega
theorem max_if' (x y : Int) : (if x < y then y else x) = max x y := by omega
set_option maxRecDepth 100000 in
set_option maxHeartbeats 4000000 in
theorem spanOf_any (A : Option Addr) (c : Nat) (l : List (Int × Int)) (u v : Int) (w : World) (h1 : -20000 ≤ u) (h2 : u ≤ 20000) (h3 : -20000 ≤ v) (h4 : v ≤ 20000) (hg : Good l) (hR : Rd w w.heap.size A l) :
    Calls Try.prog 63 #[.slice A l.length c, .agg #[.int .i64 u, .int .i64 v]] w fun e w' => e = .returned (.agg #[.int .i64 u, .int .i64 v, .int .i64 (loW l u v l.length), .int .i64 (hiW l u v l.length)]) ∧ Below w.heap.size w w' := by
  have hf := hg.few
  obtain ⟨b, off, rfl, hb, HC⟩ := pts_of (by omega) hR
  have KV := Lib.hid (fun i (hi : i < l.length) W => value_any u v (vx l i) W h1 h2 h3 h4 (hg.pegs i hi))
  have HBD := Lib.hid (lohi_bd h1 h2 h3 h4 hg.pegs (by omega))
  have HS : Hid (∀ k, loW l u v (k + 1) = min (loW l u v k) (vlu u v (vx l k)) ∧ hiW l u v (k + 1) = max (hiW l u v k) (vlu u v (vx l k))) := Lib.hid (fun k => ⟨rfl, rfl⟩)
  have H0 : Hid (loW l u v 0 = vlu u v (vx l 0) ∧ hiW l u v 0 = vlu u v (vx l 0)) := Lib.hid ⟨rfl, rfl⟩
  have h3l := hf.1
  have h10 := hf.2
  clear hR hf hg h1 h2 h3 h4
  generalize hN : l.length = n at *
  clear hN
  have hn0 : 0 < n := by omega
  go_enter Try.func63, Try.ntmps63
  go_wp2_with fail
  obtain ⟨W0, hW0⟩ : ∃ W0, W0 = ((w.alloc (.cells #[.int .i64 u, .int .i64 v] 66)).alloc (.cells #[.int .i64 0, .int .i64 0, .int .i64 0, .int .i64 0] 68)) := ⟨_, rfl⟩
  rw [← hW0]
  have yW00_0 : W0.cell? ⟨w.heap.size, 0, none⟩ = some (.int .i64 u) := by rw [hW0]; go_simp
  have yW00_1 : W0.cell? ⟨w.heap.size, 1, none⟩ = some (.int .i64 v) := by rw [hW0]; go_simp
  have fW00 : ∀ o, W0.frozen? ⟨w.heap.size, o, none⟩ = false := by intro o; rw [hW0]; (repeat rw [frozen?_alloc_cells]); simp [World.frozen?]
  have zW00 : w.heap.size < W0.heap.size := by rw [hW0]; simp <;> omega
  have yW01_0 : W0.cell? ⟨w.heap.size + 1, 0, none⟩ = some (.int .i64 0) := by rw [hW0]; go_simp
  have yW01_1 : W0.cell? ⟨w.heap.size + 1, 1, none⟩ = some (.int .i64 0) := by rw [hW0]; go_simp
  have yW01_2 : W0.cell? ⟨w.heap.size + 1, 2, none⟩ = some (.int .i64 0) := by rw [hW0]; go_simp
  have yW01_3 : W0.cell? ⟨w.heap.size + 1, 3, none⟩ = some (.int .i64 0) := by rw [hW0]; go_simp
  have fW01 : ∀ o, W0.frozen? ⟨w.heap.size + 1, o, none⟩ = false := by intro o; rw [hW0]; (repeat rw [frozen?_alloc_cells]); simp [World.frozen?]
  have zW01 : w.heap.size + 1 < W0.heap.size := by rw [hW0]; simp <;> omega
  have BW0 : Below w.heap.size w W0 := by rw [hW0]; exact (Below.alloc (Below.alloc (Below.refl _ _) (by simp <;> omega) _) (by simp <;> omega) _)
  have eW0 : Hid (W0.heap.size = w.heap.size + 2) := Lib.hid (by rw [hW0]; simp)
  clear hW0
  obtain ⟨x0, x1⟩ := HC.out W0 BW0 0 (by omega)
  simp only [Nat.zero_mul, Nat.add_zero] at x0 x1
  have K0 := Lib.hid (fun W => KV.out 0 (by omega) W)
  generalize hv0 : vlu u v (vx l 0) = v0 at *
  have HV0 := Lib.hid hv0
  clear hv0
  have D0 := yW00_0
  have D1 := yW00_1
  have hb0 : b < W0.heap.size := by have := BW0.size; omega
  refine wp_region_AL 12 (W0) (obj := .cells #[.int .i64 0, .int .i64 0, .int .i64 0, .int .i64 0] 68) (by kernel_rfl) (by kernel_rfl) (by repeat (first | exact Below.refl _ _ | apply Below.drew)) rfl (fun _ => by rfl) (fun _ _ => by first | rfl | go_simp) ?_
  simp only [List.take_succ_cons, List.take_zero, List.drop_succ_cons, List.drop_zero]
  first | refine wpR_skip (by rfl) ?_ | (refine wpR_text (v := ?_) (by rfl) (fun W k1 => ?_) ?_; rotate_left; (obtain ⟨hc1, hf1⟩ := bcell k1;  go_simp; refine comes_v ?_; exact Below.refl _ _))
  (try simp only [Act.put, List.setIfInBounds_toArray, List.set_cons_zero, List.set_cons_succ])
  first | refine wpR_skip (by rfl) ?_ | (refine wpR_text (v := ?_) (by rfl) (fun W k1 => ?_) ?_; rotate_left; (obtain ⟨hc1, hf1⟩ := bcell k1;  go_simp; refine comes_v ?_; exact Below.refl _ _))
  (try simp only [Act.put, List.setIfInBounds_toArray, List.set_cons_zero, List.set_cons_succ])
  first | refine wpR_skip (by rfl) ?_ | (refine wpR_text (v := ?_) (by rfl) (fun W k1 => ?_) ?_; rotate_left; (obtain ⟨hc1, hf1⟩ := bcell k1;  go_simp; refine comes_v ?_; exact Below.refl _ _))
  (try simp only [Act.put, List.setIfInBounds_toArray, List.set_cons_zero, List.set_cons_succ])
  first | refine wpR_skip (by rfl) ?_ | (refine wpR_text (v := ?_) (by rfl) (fun W k1 => ?_) ?_; rotate_left; (obtain ⟨hc1, hf1⟩ := bcell k1;  go_simp; refine comes_v ?_; exact Below.refl _ _))
  (try simp only [Act.put, List.setIfInBounds_toArray, List.set_cons_zero, List.set_cons_succ])
  first | refine wpR_skip (by rfl) ?_ | (refine wpR_text (v := ?_) (by rfl) (fun W k1 => ?_) ?_; rotate_left; (obtain ⟨hc1, hf1⟩ := bcell k1;  go_simp; refine comes_v ?_; exact Below.refl _ _))
  (try simp only [Act.put, List.setIfInBounds_toArray, List.set_cons_zero, List.set_cons_succ])
  first | refine wpR_skip (by rfl) ?_ | (refine wpR_text (v := .int .i64 v0) (by rfl) (fun W k1 => ?_) ?_; (obtain ⟨hc1, hf1⟩ := bcell k1;  go_simp; exact comes_c ( K0.out _) (fun wn hbn => hbn)))
  (try simp only [Act.put, List.setIfInBounds_toArray, List.set_cons_zero, List.set_cons_succ])
  first | refine wpR_skip (by rfl) ?_ | (refine wpR_text (v := ?_) (by rfl) (fun W k1 => ?_) ?_; rotate_left; (obtain ⟨hc1, hf1⟩ := bcell k1;  go_simp; refine comes_v ?_; exact Below.refl _ _))
  (try simp only [Act.put, List.setIfInBounds_toArray, List.set_cons_zero, List.set_cons_succ])
  first | refine wpR_skip (by rfl) ?_ | (refine wpR_text (v := ?_) (by rfl) (fun W k1 => ?_) ?_; rotate_left; (obtain ⟨hc1, hf1⟩ := bcell k1;  go_simp; refine comes_v ?_; exact Below.refl _ _))
  (try simp only [Act.put, List.setIfInBounds_toArray, List.set_cons_zero, List.set_cons_succ])
  first | refine wpR_skip (by rfl) ?_ | (refine wpR_text (v := ?_) (by rfl) (fun W k1 => ?_) ?_; rotate_left; (obtain ⟨hc1, hf1⟩ := bcell k1;  go_simp; refine comes_v ?_; exact Below.refl _ _))
  (try simp only [Act.put, List.setIfInBounds_toArray, List.set_cons_zero, List.set_cons_succ])
  first | refine wpR_skip (by rfl) ?_ | (refine wpR_text (v := ?_) (by rfl) (fun W k1 => ?_) ?_; rotate_left; (obtain ⟨hc1, hf1⟩ := bcell k1;  go_simp; refine comes_v ?_; exact Below.refl _ _))
  (try simp only [Act.put, List.setIfInBounds_toArray, List.set_cons_zero, List.set_cons_succ])
  first | refine wpR_skip (by rfl) ?_ | (refine wpR_text (v := .int .i64 v0) (by rfl) (fun W k1 => ?_) ?_; (obtain ⟨hc1, hf1⟩ := bcell k1;  go_simp; exact comes_c ( K0.out _) (fun wn hbn => hbn)))
  (try simp only [Act.put, List.setIfInBounds_toArray, List.set_cons_zero, List.set_cons_succ])
  first | refine wpR_skip (by rfl) ?_ | (refine wpR_text (v := ?_) (by rfl) (fun W k1 => ?_) ?_; rotate_left; (obtain ⟨hc1, hf1⟩ := bcell k1;  go_simp; refine comes_v ?_; exact Below.refl _ _))
  (try simp only [Act.put, List.setIfInBounds_toArray, List.set_cons_zero, List.set_cons_succ])
  refine wpR_nil ?_
  intro W1 W k1 k2
  (try simp only [Act.put, List.setIfInBounds_toArray, List.set_cons_zero, List.set_cons_succ])
  have T0 := Lib.hid (spn_below (spn_new W0 W1 68 k1) k2)
  have T1 := Lib.hid (spn_sets T0.out u v v0 v0)
  obtain ⟨t1, t2, t3, t4, t5, t6, t7, t8⟩ := T0.out
  clear k1 k2 x0 x1 t1 T0 K0
  go_wp2_with fail
  have T2 := T1.out
  clear T1 t3 t4 t5 t6 t7 t8
  obtain ⟨g, hg⟩ : ∃ x, x = W1.heap.size := ⟨_, rfl⟩
  rw [← hg] at T2 t2 ⊢
  clear hg
  generalize ((((W.setCell ⟨g, 0, none⟩ (.int .i64 u)).setCell ⟨g, 1, none⟩ (.int .i64 v)).setCell ⟨g, 2, none⟩ (.int .i64 v0)).setCell ⟨g, 3, none⟩ (.int .i64 v0)) = W2 at T2 ⊢
  have T3 : Hid (Spn W0 W2 g u v (loW l u v 0) (hiW l u v 0)) := Lib.hid (by rw [H0.out.1, H0.out.2]; exact T2)
  clear T2
  go_wp2_with fail
  go_loopg [22] n (fun gg i wr => ∃ k : Nat, k ≤ n ∧ gg = n - k ∧ i = .int .i64 k ∧ Hid (Spn W0 wr g u v (loW l u v k) (hiW l u v k)))
  case atStart => exact ⟨0, Nat.zero_le _, rfl, rfl, T3⟩
  case round =>
    clear T3
    obtain ⟨k, hk, hgg, rfl, hT⟩ := hrel
    rename World => wo
    have HGK := Lib.hid hgg
    clear hgg
    by_cases hlt : k < n
    · obtain ⟨x0, x1⟩ := HC.out wo (BW0.trans (hT.out.below.mono BW0.size)) k hlt
      have hbo : b < wo.heap.size := by have := hT.out.below.size; omega
      obtain ⟨s1, s2⟩ := HS.out k
      have K1 := Lib.hid (fun W => KV.out k hlt W)
      generalize vlu u v (vx l k) = z at *
      have hup := hT.out.up
      go_wp2_with fail
      obtain ⟨Wb, hWb⟩ : ∃ Wb, Wb = (wo.alloc (.cells #[.int .i64 ((vx l k).1), .int .i64 ((vx l k).2)] 56)) := ⟨_, rfl⟩
      rw [← hWb]
      have yWb0_0 : Wb.cell? ⟨wo.heap.size, 0, none⟩ = some (.int .i64 ((vx l k).1)) := by rw [hWb]; go_simp
      have yWb0_1 : Wb.cell? ⟨wo.heap.size, 1, none⟩ = some (.int .i64 ((vx l k).2)) := by rw [hWb]; go_simp
      have fWb0 : ∀ o, Wb.frozen? ⟨wo.heap.size, o, none⟩ = false := by intro o; rw [hWb]; (repeat rw [frozen?_alloc_cells]); simp [World.frozen?]
      have zWb0 : wo.heap.size < Wb.heap.size := by rw [hWb]; simp <;> omega
      have BWb : Below wo.heap.size wo Wb := by rw [hWb]; exact (Below.alloc (Below.refl _ _) (by simp <;> omega) _)
      have eWb : Hid (Wb.heap.size = wo.heap.size + 1) := Lib.hid (by rw [hWb]; simp)
      clear hWb
      have T1 := Lib.hid (spn_below hT.out BWb)
      have c2 := T1.out.c2
      have zg := T1.out.up
      have E0 := (T1.out.below.cell (p := ⟨w.heap.size, 0, none⟩) zW00).trans D0
      have E1 := (T1.out.below.cell (p := ⟨w.heap.size, 1, none⟩) zW00).trans D1
      have ze : w.heap.size < Wb.heap.size := by have := T1.out.below.size; omega
      have gne : g ≠ wo.heap.size := by omega
      clear hT x0 x1 BWb fWb0 eWb
      generalize loW l u v k = lo at *
      generalize hiW l u v k = hi at *
      have mn := min_if' lo z
      have mx := max_if' hi z
      refine wp_region_BT 7 (fun W => Below (Wb).heap.size (Wb) W) (by kernel_rfl) (by kernel_rfl) (by repeat (first | exact Below.refl _ _ | apply Below.drew)) ?_
      simp only [List.take_succ_cons, List.take_zero, List.drop_succ_cons, List.drop_zero]
      first | refine wpH_skip (by rfl) ?_ | (refine wpH_text (v := ?_) (by rfl) (fun W k1 => ?_) ?_; rotate_left; (obtain ⟨hc1, hf1⟩ := bcell k1;  go_simp; refine comes_v ?_; exact k1))
      (try simp only [Act.put, List.setIfInBounds_toArray, List.set_cons_zero, List.set_cons_succ])
      first | refine wpH_skip (by rfl) ?_ | (refine wpH_text (v := ?_) (by rfl) (fun W k1 => ?_) ?_; rotate_left; (obtain ⟨hc1, hf1⟩ := bcell k1;  go_simp; refine comes_v ?_; exact k1))
      (try simp only [Act.put, List.setIfInBounds_toArray, List.set_cons_zero, List.set_cons_succ])
      first | refine wpH_skip (by rfl) ?_ | (refine wpH_text (v := ?_) (by rfl) (fun W k1 => ?_) ?_; rotate_left; (obtain ⟨hc1, hf1⟩ := bcell k1;  go_simp; refine comes_v ?_; exact k1))
      (try simp only [Act.put, List.setIfInBounds_toArray, List.set_cons_zero, List.set_cons_succ])
      first | refine wpH_skip (by rfl) ?_ | (refine wpH_text (v := ?_) (by rfl) (fun W k1 => ?_) ?_; rotate_left; (obtain ⟨hc1, hf1⟩ := bcell k1;  go_simp; refine comes_v ?_; exact k1))
      (try simp only [Act.put, List.setIfInBounds_toArray, List.set_cons_zero, List.set_cons_succ])
      first | refine wpH_skip (by rfl) ?_ | (refine wpH_text (v := .int .i64 z) (by rfl) (fun W k1 => ?_) ?_; (obtain ⟨hc1, hf1⟩ := bcell k1;  go_simp; exact comes_c ( K1.out _) (fun wn hbn => k1.trans (hbn.mono k1.size))))
      (try simp only [Act.put, List.setIfInBounds_toArray, List.set_cons_zero, List.set_cons_succ])
      first | refine wpH_skip (by rfl) ?_ | (refine wpH_text (v := ?_) (by rfl) (fun W k1 => ?_) ?_; rotate_left; (obtain ⟨hc1, hf1⟩ := bcell k1;  go_simp; refine comes_v ?_; exact k1))
      (try simp only [Act.put, List.setIfInBounds_toArray, List.set_cons_zero, List.set_cons_succ])
      first | refine wpH_skip (by rfl) ?_ | (refine wpH_text (v := ?_) (by rfl) (fun W k1 => ?_) ?_; rotate_left; (obtain ⟨hc1, hf1⟩ := bcell k1;  go_simp; refine comes_v ?_; exact k1))
      (try simp only [Act.put, List.setIfInBounds_toArray, List.set_cons_zero, List.set_cons_succ])
      refine wpH_nil ?_
      intro W k1; obtain ⟨hc1, hf1⟩ := bcell k1
      have T2 := Lib.hid (spn_a (spn_below T1.out k1) (min lo z))
      have d2 := (spn_below T1.out k1).c2
      have d3 := (spn_below T1.out k1).fz 2
      have d4 := (spn_below T1.out k1).up
      have p0 := (hc1 _ 0 zWb0).trans yWb0_0
      have p1 := (hc1 _ 1 zWb0).trans yWb0_1
      have zp := Nat.lt_of_lt_of_le zWb0 k1.size
      clear hc1 hf1 k1 c2 zg E0 E1 ze yWb0_0 yWb0_1 zWb0 T1
      go_wp2_with fail
      try simp only [mn]
      obtain ⟨W3, hW3⟩ : ∃ W3, W3 = W.setCell ⟨g, 2, none⟩ (.int .i64 (min lo z)) := ⟨_, rfl⟩
      rw [← hW3]
      rw [← hW3] at T2
      have p0' : W3.cell? ⟨wo.heap.size, 0, none⟩ = some (.int .i64 (vx l k).1) := by
        rw [hW3, World.cell?_setCell_other _ _ _ _ (fun e => gne (by injection e))]; exact p0
      have p1' : W3.cell? ⟨wo.heap.size, 1, none⟩ = some (.int .i64 (vx l k).2) := by
        rw [hW3, World.cell?_setCell_other _ _ _ _ (fun e => gne (by injection e))]; exact p1
      have zp3 : wo.heap.size < W3.heap.size := by rw [hW3]; simpa [World.setCell] using zp
      clear hW3 d2 d3 d4 p0 p1 zp
      have c3 := T2.out.c3
      have zg := T2.out.up
      have E0 := (T2.out.below.cell (p := ⟨w.heap.size, 0, none⟩) zW00).trans D0
      have E1 := (T2.out.below.cell (p := ⟨w.heap.size, 1, none⟩) zW00).trans D1
      have ze : w.heap.size < W3.heap.size := by have := T2.out.below.size; omega
      go_wp2_with fail
      refine wp_region_BT 7 (fun W => Below (W3).heap.size (W3) W) (by kernel_rfl) (by kernel_rfl) (by repeat (first | exact Below.refl _ _ | apply Below.drew)) ?_
      simp only [List.take_succ_cons, List.take_zero, List.drop_succ_cons, List.drop_zero]
      first | refine wpH_skip (by rfl) ?_ | (refine wpH_text (v := ?_) (by rfl) (fun W k1 => ?_) ?_; rotate_left; (obtain ⟨hc1, hf1⟩ := bcell k1;  go_simp; refine comes_v ?_; exact k1))
      (try simp only [Act.put, List.setIfInBounds_toArray, List.set_cons_zero, List.set_cons_succ])
      first | refine wpH_skip (by rfl) ?_ | (refine wpH_text (v := ?_) (by rfl) (fun W k1 => ?_) ?_; rotate_left; (obtain ⟨hc1, hf1⟩ := bcell k1;  go_simp; refine comes_v ?_; exact k1))
      (try simp only [Act.put, List.setIfInBounds_toArray, List.set_cons_zero, List.set_cons_succ])
      first | refine wpH_skip (by rfl) ?_ | (refine wpH_text (v := ?_) (by rfl) (fun W k1 => ?_) ?_; rotate_left; (obtain ⟨hc1, hf1⟩ := bcell k1;  go_simp; refine comes_v ?_; exact k1))
      (try simp only [Act.put, List.setIfInBounds_toArray, List.set_cons_zero, List.set_cons_succ])
      first | refine wpH_skip (by rfl) ?_ | (refine wpH_text (v := ?_) (by rfl) (fun W k1 => ?_) ?_; rotate_left; (obtain ⟨hc1, hf1⟩ := bcell k1;  go_simp; refine comes_v ?_; exact k1))
      (try simp only [Act.put, List.setIfInBounds_toArray, List.set_cons_zero, List.set_cons_succ])
      first | refine wpH_skip (by rfl) ?_ | (refine wpH_text (v := .int .i64 z) (by rfl) (fun W k1 => ?_) ?_; (obtain ⟨hc1, hf1⟩ := bcell k1;  go_simp; exact comes_c ( K1.out _) (fun wn hbn => k1.trans (hbn.mono k1.size))))
      (try simp only [Act.put, List.setIfInBounds_toArray, List.set_cons_zero, List.set_cons_succ])
      first | refine wpH_skip (by rfl) ?_ | (refine wpH_text (v := ?_) (by rfl) (fun W k1 => ?_) ?_; rotate_left; (obtain ⟨hc1, hf1⟩ := bcell k1;  go_simp; refine comes_v ?_; exact k1))
      (try simp only [Act.put, List.setIfInBounds_toArray, List.set_cons_zero, List.set_cons_succ])
      first | refine wpH_skip (by rfl) ?_ | (refine wpH_text (v := ?_) (by rfl) (fun W k1 => ?_) ?_; rotate_left; (obtain ⟨hc1, hf1⟩ := bcell k1;  go_simp; refine comes_v ?_; exact k1))
      (try simp only [Act.put, List.setIfInBounds_toArray, List.set_cons_zero, List.set_cons_succ])
      refine wpH_nil ?_
      intro W k1; obtain ⟨hc1, hf1⟩ := bcell k1
      have T4 := Lib.hid (spn_b (spn_below T2.out k1) (max hi z))
      have d2 := (spn_below T2.out k1).c3
      have d3 := (spn_below T2.out k1).fz 3
      have d4 := (spn_below T2.out k1).up
      clear hc1 hf1 k1 c3 zg E0 E1 ze p0' p1' zp3 T2
      go_wp2_with fail
      try simp only [mx]
      go_roundg (n - (k + 1))
      case measure => have := HGK.out; omega
      case rel => exact ⟨k + 1, by omega, rfl, by go_num, Lib.hid (by rw [s1, s2]; exact T4.out)⟩
    · obtain rfl : k = n := by omega
      obtain ⟨t1, t2, t3, t4, t5, t6, t7, t8⟩ := hT.out
      have r0 := (t1.cell (p := ⟨w.heap.size + 1, 0, none⟩) zW01).trans yW01_0
      have r1 := (t1.cell (p := ⟨w.heap.size + 1, 1, none⟩) zW01).trans yW01_1
      have r2 := (t1.cell (p := ⟨w.heap.size + 1, 2, none⟩) zW01).trans yW01_2
      have r3 := (t1.cell (p := ⟨w.heap.size + 1, 3, none⟩) zW01).trans yW01_3
      have q0 := (t1.frozen (p := ⟨w.heap.size + 1, 0, none⟩) zW01).trans (fW01 0)
      have q1 := (t1.frozen (p := ⟨w.heap.size + 1, 1, none⟩) zW01).trans (fW01 1)
      have q2 := (t1.frozen (p := ⟨w.heap.size + 1, 2, none⟩) zW01).trans (fW01 2)
      have q3 := (t1.frozen (p := ⟨w.heap.size + 1, 3, none⟩) zW01).trans (fW01 3)
      have zr : w.heap.size + 1 < wo.heap.size := by have := t1.size; omega
      have BB : Below w.heap.size w wo := BW0.trans (t1.mono BW0.size)
      have zz := BB.size
      clear hT D0 D1 yW00_0 yW00_1 yW01_0 yW01_1 yW01_2 yW01_3 fW00 fW01
      go_wp2_with fail
      refine bodyPost_ret (v := .agg #[.int .i64 u, .int .i64 v, .int .i64 (loW l u v k), .int .i64 (hiW l u v k)]) (by simp [results, Try.results63, go_sem, r0, r1, r2, r3, zr]) rfl ⟨rfl, ?_⟩
      repeat (first | with_reducible assumption | with_reducible exact Below.refl _ _ | with_reducible apply Below.drew | ((with_reducible refine Below.setCell ?_ ?_ _); rotate_left; (first | exact Nat.le_refl _ | omega | (simp <;> omega))) | ((with_reducible refine Below.alloc ?_ ?_ _); rotate_left; (first | omega | (simp <;> omega))))
end Go.Proofs.Ytheddoinnakneaa
/- contracts: WidthIn, the program -/
namespace Go.Proofs.Ytheddoinnakneaa
open Go.ChangeShapes Go.WideShapes Go.ChangeAt Go.RowKit Go.Joins
set_option linter.unusedVariables false
set_option linter.unusedSimpArgs false
set_option maxRecDepth 4000
theorem isReduced_any (u v : Int) (w : World) (h1 : -20000 ≤ u) (h2 : u ≤ 20000) (h3 : -20000 ≤ v) (h4 : v ≤ 20000) :
    Calls Try.prog 112 #[.agg #[.int .i64 u, .int .i64 v]] w fun e w' => e = .returned (.bool (decide (Nat.gcd u.natAbs v.natAbs = 1))) ∧ Below w.heap.size w w' := by
  have KG := Lib.hid (fun W => greatestDivisor_any u v W (by omega) (by omega) (by omega) (by omega))
  obtain ⟨g, hgd⟩ : ∃ g, g = Nat.gcd u.natAbs v.natAbs := ⟨_, rfl⟩
  have hq : Hid (decide (Nat.gcd u.natAbs v.natAbs = 1) = ((g : Int) == 1)) := Lib.hid (by
        have hc : ((g : Int) == 1) = decide (g = 1) := by by_cases h : g = 1 <;> simp [h] <;> omega
        rw [hc]; subst hgd; simp only [decide_eq_decide])
  rw [← hgd] at KG
  clear hgd
  go_enter Try.func112, Try.ntmps112
  go_wp2_with fail
  obtain ⟨W0, hW0⟩ : ∃ W0, W0 = (w.alloc (.cells #[.int .i64 u, .int .i64 v] 66)) := ⟨_, rfl⟩
  rw [← hW0]
  have yW00_0 : W0.cell? ⟨w.heap.size, 0, none⟩ = some (.int .i64 u) := by rw [hW0]; go_simp
  have yW00_1 : W0.cell? ⟨w.heap.size, 1, none⟩ = some (.int .i64 v) := by rw [hW0]; go_simp
  have fW00 : ∀ o, W0.frozen? ⟨w.heap.size, o, none⟩ = false := by intro o; rw [hW0]; (repeat rw [frozen?_alloc_cells]); simp [World.frozen?]
  have zW00 : w.heap.size < W0.heap.size := by rw [hW0]; simp <;> omega
  have BW0 : Below w.heap.size w W0 := by rw [hW0]; exact (Below.alloc (Below.refl _ _) (by simp <;> omega) _)
  have eW0 : Hid (W0.heap.size = w.heap.size + 1) := Lib.hid (by rw [hW0]; simp)
  clear hW0
  refine (KG.out _).mono ?_; rintro e w1 ⟨rfl, hb1⟩
  go_wp2_with fail
  go_ret
  exact ⟨ret_bool (by rw [hq.out]), BW0.trans (hb1.mono BW0.size)⟩
theorem width_any (u v a b : Int) (w : World) (h1 : -1600000 ≤ a) (h2 : a ≤ 1600000) (h3 : -1600000 ≤ b) (h4 : b ≤ 1600000) :
    Calls Try.prog 57 #[.agg #[.int .i64 u, .int .i64 v, .int .i64 a, .int .i64 b]] w fun e w' => e = .returned (.int .i64 (b - a)) ∧ Below w.heap.size w w' := by
  have i1 : IntKind.i64.wrap (b - a) = b - a := IntWalk.i64_in _ (by omega)
  go_enter Try.func57, Try.ntmps57
  go_wp2_with fail
  go_ret
  exact ⟨rfl, (by repeat (first | exact Below.refl _ _ | assumption | apply Below.drew | refine Below.alloc ?_ (by simp <;> omega) _))⟩
noncomputable def spV (l : List (Int × Int)) (u v : Int) : Value := if okW l u v = true then .agg #[.int .i64 u, .int .i64 v, .int .i64 (loW l u v l.length), .int .i64 (hiW l u v l.length)] else .agg #[.int .i64 0, .int .i64 0, .int .i64 0, .int .i64 0]
theorem spV_t {l : List (Int × Int)} {u v : Int} (h : okW l u v = true) : spV l u v = .agg #[.int .i64 u, .int .i64 v, .int .i64 (loW l u v l.length), .int .i64 (hiW l u v l.length)] := by unfold spV; rw [if_pos h]
theorem spV_f {l : List (Int × Int)} {u v : Int} (h : okW l u v = false) : spV l u v = .agg #[.int .i64 0, .int .i64 0, .int .i64 0, .int .i64 0] := by unfold spV; rw [h]; rfl
theorem isOfSize_200 (n : Int) (w : World) : Calls Try.prog 111 #[.int .i64 n, .int .i64 200] w fun e w' => e = .returned (.bool (decide (-200 ≤ n) && decide (n ≤ 200))) ∧ w = w' := isOfSize_any n 200 w (by omega) (by omega)
set_option maxHeartbeats 4000000 in
theorem spanIn_any (A : Option Addr) (c : Nat) (l : List (Int × Int)) (u v : Int) (w : World) (hn : l.length ≤ 1048576) (hR : Rd w w.heap.size A l) :
    Calls Try.prog 70 #[.slice A l.length c, .int .i64 u, .int .i64 v] w fun e w' => e = .returned (.tuple #[spV l u v, .bool (okW l u v)]) ∧ Below w.heap.size w w' := by
  have K := Lib.hid (fun (W : World) (hb : Below w.heap.size w W) => implIsPolygon_any A c l W hn (rd_more (rd_below hR hb (Nat.le_refl _)) hb.size))
  have KU := Lib.hid (fun W => isOfSize_200 u W)
  have KV := Lib.hid (fun W => isOfSize_200 v W)
  by_cases hg : goodB l = true
  rotate_left
  · have hgf : goodB l = false := by simpa using hg
    have ho : okW l u v = false := by unfold okW; rw [hgf]; rfl
    rw [spV_f ho, ho]
    rw [hgf] at K
    clear hg hgf ho hR
    go_enter Try.func70, Try.ntmps70
    go_wp2_with fail
    obtain ⟨W0, hW0⟩ : ∃ W0, W0 = ((w.alloc (.cells #[.int .i64 0, .int .i64 0, .int .i64 0, .int .i64 0] 68)).alloc (.cells #[.int .i64 u, .int .i64 v] 66)) := ⟨_, rfl⟩
    rw [← hW0]
    have yW00_0 : W0.cell? ⟨w.heap.size, 0, none⟩ = some (.int .i64 0) := by rw [hW0]; go_simp
    have yW00_1 : W0.cell? ⟨w.heap.size, 1, none⟩ = some (.int .i64 0) := by rw [hW0]; go_simp
    have yW00_2 : W0.cell? ⟨w.heap.size, 2, none⟩ = some (.int .i64 0) := by rw [hW0]; go_simp
    have yW00_3 : W0.cell? ⟨w.heap.size, 3, none⟩ = some (.int .i64 0) := by rw [hW0]; go_simp
    have fW00 : ∀ o, W0.frozen? ⟨w.heap.size, o, none⟩ = false := by intro o; rw [hW0]; (repeat rw [frozen?_alloc_cells]); simp [World.frozen?]
    have zW00 : w.heap.size < W0.heap.size := by rw [hW0]; simp <;> omega
    have yW01_0 : W0.cell? ⟨w.heap.size + 1, 0, none⟩ = some (.int .i64 u) := by rw [hW0]; go_simp
    have yW01_1 : W0.cell? ⟨w.heap.size + 1, 1, none⟩ = some (.int .i64 v) := by rw [hW0]; go_simp
    have fW01 : ∀ o, W0.frozen? ⟨w.heap.size + 1, o, none⟩ = false := by intro o; rw [hW0]; (repeat rw [frozen?_alloc_cells]); simp [World.frozen?]
    have zW01 : w.heap.size + 1 < W0.heap.size := by rw [hW0]; simp <;> omega
    have BW0 : Below w.heap.size w W0 := by rw [hW0]; exact (Below.alloc (Below.alloc (Below.refl _ _) (by simp <;> omega) _) (by simp <;> omega) _)
    have eW0 : Hid (W0.heap.size = w.heap.size + 2) := Lib.hid (by rw [hW0]; simp)
    clear hW0
    refine (K.out _ BW0).mono ?_; rintro e w1 ⟨rfl, hb1⟩
    have B1 := BW0.trans (hb1.mono BW0.size)
    have r0 := (hb1.cell (p := ⟨w.heap.size, 0, none⟩) zW00).trans yW00_0
    have r1 := (hb1.cell (p := ⟨w.heap.size, 1, none⟩) zW00).trans yW00_1
    have r2 := (hb1.cell (p := ⟨w.heap.size, 2, none⟩) zW00).trans yW00_2
    have r3 := (hb1.cell (p := ⟨w.heap.size, 3, none⟩) zW00).trans yW00_3
    have q0 := (hb1.frozen (p := ⟨w.heap.size, 0, none⟩) zW00).trans (fW00 0)
    have q1 := (hb1.frozen (p := ⟨w.heap.size, 1, none⟩) zW00).trans (fW00 1)
    have q2 := (hb1.frozen (p := ⟨w.heap.size, 2, none⟩) zW00).trans (fW00 2)
    have q3 := (hb1.frozen (p := ⟨w.heap.size, 3, none⟩) zW00).trans (fW00 3)
    have d0 := (hb1.cell (p := ⟨w.heap.size + 1, 0, none⟩) zW01).trans yW01_0
    have d1 := (hb1.cell (p := ⟨w.heap.size + 1, 1, none⟩) zW01).trans yW01_1
    have v0 : w.heap.size < w1.heap.size := by have := hb1.size; omega
    have v1 : w.heap.size + 1 < w1.heap.size := by have := hb1.size; omega
    have zz := B1.size
    clear yW00_0 yW00_1 yW00_2 yW00_3 yW01_0 yW01_1 fW00 fW01 zW00 zW01 BW0 hb1 K
    go_wp2_with fail
    refine bodyPost_ret (v := .tuple #[.agg #[.int .i64 0, .int .i64 0, .int .i64 0, .int .i64 0], .bool false]) (by simp [results, Try.results70, go_sem, r0, r1, r2, r3, v0]) rfl ⟨rfl, ?_⟩
    repeat (first | with_reducible assumption | with_reducible exact Below.refl _ _ | with_reducible apply Below.drew | ((with_reducible refine Below.setCell ?_ ?_ _); rotate_left; (first | exact Nat.le_refl _ | omega | (simp <;> omega))) | ((with_reducible refine Below.alloc ?_ ?_ _); rotate_left; (first | omega | (simp <;> omega))))
  have hgg : Good l := by unfold goodB at hg; simpa using hg
  by_cases hu : (decide (-200 ≤ u) && decide (u ≤ 200)) = true
  rotate_left
  · have huf : (decide (-200 ≤ u) && decide (u ≤ 200)) = false := by simpa using hu
    have ho : okW l u v = false := by unfold okW dirB; rw [huf]; simp
    rw [spV_f ho, ho]
    rw [hg] at K
    rw [huf] at KU
    clear hg hgg hu huf ho hR
    go_enter Try.func70, Try.ntmps70
    go_wp2_with fail
    obtain ⟨W0, hW0⟩ : ∃ W0, W0 = ((w.alloc (.cells #[.int .i64 0, .int .i64 0, .int .i64 0, .int .i64 0] 68)).alloc (.cells #[.int .i64 u, .int .i64 v] 66)) := ⟨_, rfl⟩
    rw [← hW0]
    have yW00_0 : W0.cell? ⟨w.heap.size, 0, none⟩ = some (.int .i64 0) := by rw [hW0]; go_simp
    have yW00_1 : W0.cell? ⟨w.heap.size, 1, none⟩ = some (.int .i64 0) := by rw [hW0]; go_simp
    have yW00_2 : W0.cell? ⟨w.heap.size, 2, none⟩ = some (.int .i64 0) := by rw [hW0]; go_simp
    have yW00_3 : W0.cell? ⟨w.heap.size, 3, none⟩ = some (.int .i64 0) := by rw [hW0]; go_simp
    have fW00 : ∀ o, W0.frozen? ⟨w.heap.size, o, none⟩ = false := by intro o; rw [hW0]; (repeat rw [frozen?_alloc_cells]); simp [World.frozen?]
    have zW00 : w.heap.size < W0.heap.size := by rw [hW0]; simp <;> omega
    have yW01_0 : W0.cell? ⟨w.heap.size + 1, 0, none⟩ = some (.int .i64 u) := by rw [hW0]; go_simp
    have yW01_1 : W0.cell? ⟨w.heap.size + 1, 1, none⟩ = some (.int .i64 v) := by rw [hW0]; go_simp
    have fW01 : ∀ o, W0.frozen? ⟨w.heap.size + 1, o, none⟩ = false := by intro o; rw [hW0]; (repeat rw [frozen?_alloc_cells]); simp [World.frozen?]
    have zW01 : w.heap.size + 1 < W0.heap.size := by rw [hW0]; simp <;> omega
    have BW0 : Below w.heap.size w W0 := by rw [hW0]; exact (Below.alloc (Below.alloc (Below.refl _ _) (by simp <;> omega) _) (by simp <;> omega) _)
    have eW0 : Hid (W0.heap.size = w.heap.size + 2) := Lib.hid (by rw [hW0]; simp)
    clear hW0
    refine (K.out _ BW0).mono ?_; rintro e w1 ⟨rfl, hb1⟩
    have B1 := BW0.trans (hb1.mono BW0.size)
    have r0 := (hb1.cell (p := ⟨w.heap.size, 0, none⟩) zW00).trans yW00_0
    have r1 := (hb1.cell (p := ⟨w.heap.size, 1, none⟩) zW00).trans yW00_1
    have r2 := (hb1.cell (p := ⟨w.heap.size, 2, none⟩) zW00).trans yW00_2
    have r3 := (hb1.cell (p := ⟨w.heap.size, 3, none⟩) zW00).trans yW00_3
    have q0 := (hb1.frozen (p := ⟨w.heap.size, 0, none⟩) zW00).trans (fW00 0)
    have q1 := (hb1.frozen (p := ⟨w.heap.size, 1, none⟩) zW00).trans (fW00 1)
    have q2 := (hb1.frozen (p := ⟨w.heap.size, 2, none⟩) zW00).trans (fW00 2)
    have q3 := (hb1.frozen (p := ⟨w.heap.size, 3, none⟩) zW00).trans (fW00 3)
    have d0 := (hb1.cell (p := ⟨w.heap.size + 1, 0, none⟩) zW01).trans yW01_0
    have d1 := (hb1.cell (p := ⟨w.heap.size + 1, 1, none⟩) zW01).trans yW01_1
    have v0 : w.heap.size < w1.heap.size := by have := hb1.size; omega
    have v1 : w.heap.size + 1 < w1.heap.size := by have := hb1.size; omega
    have zz := B1.size
    clear yW00_0 yW00_1 yW00_2 yW00_3 yW01_0 yW01_1 fW00 fW01 zW00 zW01 BW0 hb1 K
    go_wp2_with fail
    refine (KU.out _).mono ?_; rintro e _ ⟨rfl, rfl⟩
    go_wp2_with fail
    refine bodyPost_ret (v := .tuple #[.agg #[.int .i64 0, .int .i64 0, .int .i64 0, .int .i64 0], .bool false]) (by simp [results, Try.results70, go_sem, r0, r1, r2, r3, v0]) rfl ⟨rfl, ?_⟩
    repeat (first | with_reducible assumption | with_reducible exact Below.refl _ _ | with_reducible apply Below.drew | ((with_reducible refine Below.setCell ?_ ?_ _); rotate_left; (first | exact Nat.le_refl _ | omega | (simp <;> omega))) | ((with_reducible refine Below.alloc ?_ ?_ _); rotate_left; (first | omega | (simp <;> omega))))
  by_cases hv : (decide (-200 ≤ v) && decide (v ≤ 200)) = true
  rotate_left
  · have hvf : (decide (-200 ≤ v) && decide (v ≤ 200)) = false := by simpa using hv
    have ho : okW l u v = false := by unfold okW dirB; rw [hvf]; simp
    rw [spV_f ho, ho]
    rw [hg] at K
    rw [hu] at KU
    rw [hvf] at KV
    clear hg hgg hu hv hvf ho hR
    go_enter Try.func70, Try.ntmps70
    go_wp2_with fail
    obtain ⟨W0, hW0⟩ : ∃ W0, W0 = ((w.alloc (.cells #[.int .i64 0, .int .i64 0, .int .i64 0, .int .i64 0] 68)).alloc (.cells #[.int .i64 u, .int .i64 v] 66)) := ⟨_, rfl⟩
    rw [← hW0]
    have yW00_0 : W0.cell? ⟨w.heap.size, 0, none⟩ = some (.int .i64 0) := by rw [hW0]; go_simp
    have yW00_1 : W0.cell? ⟨w.heap.size, 1, none⟩ = some (.int .i64 0) := by rw [hW0]; go_simp
    have yW00_2 : W0.cell? ⟨w.heap.size, 2, none⟩ = some (.int .i64 0) := by rw [hW0]; go_simp
    have yW00_3 : W0.cell? ⟨w.heap.size, 3, none⟩ = some (.int .i64 0) := by rw [hW0]; go_simp
    have fW00 : ∀ o, W0.frozen? ⟨w.heap.size, o, none⟩ = false := by intro o; rw [hW0]; (repeat rw [frozen?_alloc_cells]); simp [World.frozen?]
    have zW00 : w.heap.size < W0.heap.size := by rw [hW0]; simp <;> omega
    have yW01_0 : W0.cell? ⟨w.heap.size + 1, 0, none⟩ = some (.int .i64 u) := by rw [hW0]; go_simp
    have yW01_1 : W0.cell? ⟨w.heap.size + 1, 1, none⟩ = some (.int .i64 v) := by rw [hW0]; go_simp
    have fW01 : ∀ o, W0.frozen? ⟨w.heap.size + 1, o, none⟩ = false := by intro o; rw [hW0]; (repeat rw [frozen?_alloc_cells]); simp [World.frozen?]
    have zW01 : w.heap.size + 1 < W0.heap.size := by rw [hW0]; simp <;> omega
    have BW0 : Below w.heap.size w W0 := by rw [hW0]; exact (Below.alloc (Below.alloc (Below.refl _ _) (by simp <;> omega) _) (by simp <;> omega) _)
    have eW0 : Hid (W0.heap.size = w.heap.size + 2) := Lib.hid (by rw [hW0]; simp)
    clear hW0
    refine (K.out _ BW0).mono ?_; rintro e w1 ⟨rfl, hb1⟩
    have B1 := BW0.trans (hb1.mono BW0.size)
    have r0 := (hb1.cell (p := ⟨w.heap.size, 0, none⟩) zW00).trans yW00_0
    have r1 := (hb1.cell (p := ⟨w.heap.size, 1, none⟩) zW00).trans yW00_1
    have r2 := (hb1.cell (p := ⟨w.heap.size, 2, none⟩) zW00).trans yW00_2
    have r3 := (hb1.cell (p := ⟨w.heap.size, 3, none⟩) zW00).trans yW00_3
    have q0 := (hb1.frozen (p := ⟨w.heap.size, 0, none⟩) zW00).trans (fW00 0)
    have q1 := (hb1.frozen (p := ⟨w.heap.size, 1, none⟩) zW00).trans (fW00 1)
    have q2 := (hb1.frozen (p := ⟨w.heap.size, 2, none⟩) zW00).trans (fW00 2)
    have q3 := (hb1.frozen (p := ⟨w.heap.size, 3, none⟩) zW00).trans (fW00 3)
    have d0 := (hb1.cell (p := ⟨w.heap.size + 1, 0, none⟩) zW01).trans yW01_0
    have d1 := (hb1.cell (p := ⟨w.heap.size + 1, 1, none⟩) zW01).trans yW01_1
    have v0 : w.heap.size < w1.heap.size := by have := hb1.size; omega
    have v1 : w.heap.size + 1 < w1.heap.size := by have := hb1.size; omega
    have zz := B1.size
    clear yW00_0 yW00_1 yW00_2 yW00_3 yW01_0 yW01_1 fW00 fW01 zW00 zW01 BW0 hb1 K
    go_wp2_with fail
    refine (KU.out _).mono ?_; rintro e _ ⟨rfl, rfl⟩
    go_wp2_with fail
    refine (KV.out _).mono ?_; rintro e _ ⟨rfl, rfl⟩
    go_wp2_with fail
    refine bodyPost_ret (v := .tuple #[.agg #[.int .i64 0, .int .i64 0, .int .i64 0, .int .i64 0], .bool false]) (by simp [results, Try.results70, go_sem, r0, r1, r2, r3, v0]) rfl ⟨rfl, ?_⟩
    repeat (first | with_reducible assumption | with_reducible exact Below.refl _ _ | with_reducible apply Below.drew | ((with_reducible refine Below.setCell ?_ ?_ _); rotate_left; (first | exact Nat.le_refl _ | omega | (simp <;> omega))) | ((with_reducible refine Below.alloc ?_ ?_ _); rotate_left; (first | omega | (simp <;> omega))))
  have hu2 := hu
  have hv2 := hv
  simp only [Bool.and_eq_true, decide_eq_true_eq] at hu2 hv2
  have KR := Lib.hid (fun W => isReduced_any u v W (by omega) (by omega) (by omega) (by omega))
  by_cases hc : Nat.gcd u.natAbs v.natAbs = 1
  · have ho : okW l u v = true := by unfold okW dirB; rw [hg, hu, hv]; simp [hc]
    have KS := Lib.hid (fun W (hb : Below w.heap.size w W) => spanOf_any A c l u v W (by omega) (by omega) (by omega) (by omega) hgg (rd_more (rd_below hR hb (Nat.le_refl _)) hb.size))
    rw [spV_t ho, ho]
    rw [hg] at K
    rw [hu] at KU
    rw [hv] at KV
    rw [show decide (Nat.gcd u.natAbs v.natAbs = 1) = true by simp [hc]] at KR
    generalize loW l u v l.length = lo at *
    generalize hiW l u v l.length = hi at *
    clear hg hgg hu hv hu2 hv2 ho hR hc
    go_enter Try.func70, Try.ntmps70
    go_wp2_with fail
    obtain ⟨W0, hW0⟩ : ∃ W0, W0 = ((w.alloc (.cells #[.int .i64 0, .int .i64 0, .int .i64 0, .int .i64 0] 68)).alloc (.cells #[.int .i64 u, .int .i64 v] 66)) := ⟨_, rfl⟩
    rw [← hW0]
    have yW00_0 : W0.cell? ⟨w.heap.size, 0, none⟩ = some (.int .i64 0) := by rw [hW0]; go_simp
    have yW00_1 : W0.cell? ⟨w.heap.size, 1, none⟩ = some (.int .i64 0) := by rw [hW0]; go_simp
    have yW00_2 : W0.cell? ⟨w.heap.size, 2, none⟩ = some (.int .i64 0) := by rw [hW0]; go_simp
    have yW00_3 : W0.cell? ⟨w.heap.size, 3, none⟩ = some (.int .i64 0) := by rw [hW0]; go_simp
    have fW00 : ∀ o, W0.frozen? ⟨w.heap.size, o, none⟩ = false := by intro o; rw [hW0]; (repeat rw [frozen?_alloc_cells]); simp [World.frozen?]
    have zW00 : w.heap.size < W0.heap.size := by rw [hW0]; simp <;> omega
    have yW01_0 : W0.cell? ⟨w.heap.size + 1, 0, none⟩ = some (.int .i64 u) := by rw [hW0]; go_simp
    have yW01_1 : W0.cell? ⟨w.heap.size + 1, 1, none⟩ = some (.int .i64 v) := by rw [hW0]; go_simp
    have fW01 : ∀ o, W0.frozen? ⟨w.heap.size + 1, o, none⟩ = false := by intro o; rw [hW0]; (repeat rw [frozen?_alloc_cells]); simp [World.frozen?]
    have zW01 : w.heap.size + 1 < W0.heap.size := by rw [hW0]; simp <;> omega
    have BW0 : Below w.heap.size w W0 := by rw [hW0]; exact (Below.alloc (Below.alloc (Below.refl _ _) (by simp <;> omega) _) (by simp <;> omega) _)
    have eW0 : Hid (W0.heap.size = w.heap.size + 2) := Lib.hid (by rw [hW0]; simp)
    clear hW0
    refine (K.out _ BW0).mono ?_; rintro e w1 ⟨rfl, hb1⟩
    have B1 := BW0.trans (hb1.mono BW0.size)
    have r0 := (hb1.cell (p := ⟨w.heap.size, 0, none⟩) zW00).trans yW00_0
    have r1 := (hb1.cell (p := ⟨w.heap.size, 1, none⟩) zW00).trans yW00_1
    have r2 := (hb1.cell (p := ⟨w.heap.size, 2, none⟩) zW00).trans yW00_2
    have r3 := (hb1.cell (p := ⟨w.heap.size, 3, none⟩) zW00).trans yW00_3
    have q0 := (hb1.frozen (p := ⟨w.heap.size, 0, none⟩) zW00).trans (fW00 0)
    have q1 := (hb1.frozen (p := ⟨w.heap.size, 1, none⟩) zW00).trans (fW00 1)
    have q2 := (hb1.frozen (p := ⟨w.heap.size, 2, none⟩) zW00).trans (fW00 2)
    have q3 := (hb1.frozen (p := ⟨w.heap.size, 3, none⟩) zW00).trans (fW00 3)
    have d0 := (hb1.cell (p := ⟨w.heap.size + 1, 0, none⟩) zW01).trans yW01_0
    have d1 := (hb1.cell (p := ⟨w.heap.size + 1, 1, none⟩) zW01).trans yW01_1
    have v0 : w.heap.size < w1.heap.size := by have := hb1.size; omega
    have v1 : w.heap.size + 1 < w1.heap.size := by have := hb1.size; omega
    have zz := B1.size
    clear yW00_0 yW00_1 yW00_2 yW00_3 yW01_0 yW01_1 fW00 fW01 zW00 zW01 BW0 hb1 K
    go_wp2_with fail
    refine (KU.out _).mono ?_; rintro e _ ⟨rfl, rfl⟩
    go_wp2_with fail
    refine (KV.out _).mono ?_; rintro e _ ⟨rfl, rfl⟩
    go_wp2_with fail
    refine (KR.out _).mono ?_; rintro e w2 ⟨rfl, hb2⟩
    have r0 := (hb2.cell (p := ⟨w.heap.size, 0, none⟩) v0).trans r0
    have r1 := (hb2.cell (p := ⟨w.heap.size, 1, none⟩) v0).trans r1
    have r2 := (hb2.cell (p := ⟨w.heap.size, 2, none⟩) v0).trans r2
    have r3 := (hb2.cell (p := ⟨w.heap.size, 3, none⟩) v0).trans r3
    have q0 := (hb2.frozen (p := ⟨w.heap.size, 0, none⟩) v0).trans q0
    have q1 := (hb2.frozen (p := ⟨w.heap.size, 1, none⟩) v0).trans q1
    have q2 := (hb2.frozen (p := ⟨w.heap.size, 2, none⟩) v0).trans q2
    have q3 := (hb2.frozen (p := ⟨w.heap.size, 3, none⟩) v0).trans q3
    have d0 := (hb2.cell (p := ⟨w.heap.size + 1, 0, none⟩) v1).trans d0
    have d1 := (hb2.cell (p := ⟨w.heap.size + 1, 1, none⟩) v1).trans d1
    have v1 : w.heap.size + 1 < w2.heap.size := by have := hb2.size; omega
    have v0 : w.heap.size < w2.heap.size := by have := hb2.size; omega
    have B2 := B1.trans (hb2.mono B1.size)
    have zz := B2.size
    clear hb2
    go_wp2_with fail
    refine (KS.out _ B2).mono ?_; rintro e w3 ⟨rfl, hb2⟩
    have r0 := (hb2.cell (p := ⟨w.heap.size, 0, none⟩) v0).trans r0
    have r1 := (hb2.cell (p := ⟨w.heap.size, 1, none⟩) v0).trans r1
    have r2 := (hb2.cell (p := ⟨w.heap.size, 2, none⟩) v0).trans r2
    have r3 := (hb2.cell (p := ⟨w.heap.size, 3, none⟩) v0).trans r3
    have q0 := (hb2.frozen (p := ⟨w.heap.size, 0, none⟩) v0).trans q0
    have q1 := (hb2.frozen (p := ⟨w.heap.size, 1, none⟩) v0).trans q1
    have q2 := (hb2.frozen (p := ⟨w.heap.size, 2, none⟩) v0).trans q2
    have q3 := (hb2.frozen (p := ⟨w.heap.size, 3, none⟩) v0).trans q3
    have d0 := (hb2.cell (p := ⟨w.heap.size + 1, 0, none⟩) v1).trans d0
    have d1 := (hb2.cell (p := ⟨w.heap.size + 1, 1, none⟩) v1).trans d1
    have v1 : w.heap.size + 1 < w3.heap.size := by have := hb2.size; omega
    have v0 : w.heap.size < w3.heap.size := by have := hb2.size; omega
    have B3 := B2.trans (hb2.mono B2.size)
    have zz := B3.size
    clear hb2
    go_wp2_with fail
    refine bodyPost_ret (v := .tuple #[.agg #[.int .i64 u, .int .i64 v, .int .i64 lo, .int .i64 hi], .bool true]) (by simp [results, Try.results70, go_sem, r0, r1, r2, r3, v0]) rfl ⟨rfl, ?_⟩
    repeat (first | with_reducible assumption | with_reducible exact Below.refl _ _ | with_reducible apply Below.drew | ((with_reducible refine Below.setCell ?_ ?_ _); rotate_left; (first | exact Nat.le_refl _ | omega | (simp <;> omega))) | ((with_reducible refine Below.alloc ?_ ?_ _); rotate_left; (first | omega | (simp <;> omega))))
  · have ho : okW l u v = false := by unfold okW dirB; simp [hc]
    rw [spV_f ho, ho]
    rw [hg] at K
    rw [hu] at KU
    rw [hv] at KV
    rw [show decide (Nat.gcd u.natAbs v.natAbs = 1) = false by simp [hc]] at KR
    clear hg hgg hu hv hu2 hv2 ho hR hc
    go_enter Try.func70, Try.ntmps70
    go_wp2_with fail
    obtain ⟨W0, hW0⟩ : ∃ W0, W0 = ((w.alloc (.cells #[.int .i64 0, .int .i64 0, .int .i64 0, .int .i64 0] 68)).alloc (.cells #[.int .i64 u, .int .i64 v] 66)) := ⟨_, rfl⟩
    rw [← hW0]
    have yW00_0 : W0.cell? ⟨w.heap.size, 0, none⟩ = some (.int .i64 0) := by rw [hW0]; go_simp
    have yW00_1 : W0.cell? ⟨w.heap.size, 1, none⟩ = some (.int .i64 0) := by rw [hW0]; go_simp
    have yW00_2 : W0.cell? ⟨w.heap.size, 2, none⟩ = some (.int .i64 0) := by rw [hW0]; go_simp
    have yW00_3 : W0.cell? ⟨w.heap.size, 3, none⟩ = some (.int .i64 0) := by rw [hW0]; go_simp
    have fW00 : ∀ o, W0.frozen? ⟨w.heap.size, o, none⟩ = false := by intro o; rw [hW0]; (repeat rw [frozen?_alloc_cells]); simp [World.frozen?]
    have zW00 : w.heap.size < W0.heap.size := by rw [hW0]; simp <;> omega
    have yW01_0 : W0.cell? ⟨w.heap.size + 1, 0, none⟩ = some (.int .i64 u) := by rw [hW0]; go_simp
    have yW01_1 : W0.cell? ⟨w.heap.size + 1, 1, none⟩ = some (.int .i64 v) := by rw [hW0]; go_simp
    have fW01 : ∀ o, W0.frozen? ⟨w.heap.size + 1, o, none⟩ = false := by intro o; rw [hW0]; (repeat rw [frozen?_alloc_cells]); simp [World.frozen?]
    have zW01 : w.heap.size + 1 < W0.heap.size := by rw [hW0]; simp <;> omega
    have BW0 : Below w.heap.size w W0 := by rw [hW0]; exact (Below.alloc (Below.alloc (Below.refl _ _) (by simp <;> omega) _) (by simp <;> omega) _)
    have eW0 : Hid (W0.heap.size = w.heap.size + 2) := Lib.hid (by rw [hW0]; simp)
    clear hW0
    refine (K.out _ BW0).mono ?_; rintro e w1 ⟨rfl, hb1⟩
    have B1 := BW0.trans (hb1.mono BW0.size)
    have r0 := (hb1.cell (p := ⟨w.heap.size, 0, none⟩) zW00).trans yW00_0
    have r1 := (hb1.cell (p := ⟨w.heap.size, 1, none⟩) zW00).trans yW00_1
    have r2 := (hb1.cell (p := ⟨w.heap.size, 2, none⟩) zW00).trans yW00_2
    have r3 := (hb1.cell (p := ⟨w.heap.size, 3, none⟩) zW00).trans yW00_3
    have q0 := (hb1.frozen (p := ⟨w.heap.size, 0, none⟩) zW00).trans (fW00 0)
    have q1 := (hb1.frozen (p := ⟨w.heap.size, 1, none⟩) zW00).trans (fW00 1)
    have q2 := (hb1.frozen (p := ⟨w.heap.size, 2, none⟩) zW00).trans (fW00 2)
    have q3 := (hb1.frozen (p := ⟨w.heap.size, 3, none⟩) zW00).trans (fW00 3)
    have d0 := (hb1.cell (p := ⟨w.heap.size + 1, 0, none⟩) zW01).trans yW01_0
    have d1 := (hb1.cell (p := ⟨w.heap.size + 1, 1, none⟩) zW01).trans yW01_1
    have v0 : w.heap.size < w1.heap.size := by have := hb1.size; omega
    have v1 : w.heap.size + 1 < w1.heap.size := by have := hb1.size; omega
    have zz := B1.size
    clear yW00_0 yW00_1 yW00_2 yW00_3 yW01_0 yW01_1 fW00 fW01 zW00 zW01 BW0 hb1 K
    go_wp2_with fail
    refine (KU.out _).mono ?_; rintro e _ ⟨rfl, rfl⟩
    go_wp2_with fail
    refine (KV.out _).mono ?_; rintro e _ ⟨rfl, rfl⟩
    go_wp2_with fail
    refine (KR.out _).mono ?_; rintro e w2 ⟨rfl, hb2⟩
    have r0 := (hb2.cell (p := ⟨w.heap.size, 0, none⟩) v0).trans r0
    have r1 := (hb2.cell (p := ⟨w.heap.size, 1, none⟩) v0).trans r1
    have r2 := (hb2.cell (p := ⟨w.heap.size, 2, none⟩) v0).trans r2
    have r3 := (hb2.cell (p := ⟨w.heap.size, 3, none⟩) v0).trans r3
    have q0 := (hb2.frozen (p := ⟨w.heap.size, 0, none⟩) v0).trans q0
    have q1 := (hb2.frozen (p := ⟨w.heap.size, 1, none⟩) v0).trans q1
    have q2 := (hb2.frozen (p := ⟨w.heap.size, 2, none⟩) v0).trans q2
    have q3 := (hb2.frozen (p := ⟨w.heap.size, 3, none⟩) v0).trans q3
    have d0 := (hb2.cell (p := ⟨w.heap.size + 1, 0, none⟩) v1).trans d0
    have d1 := (hb2.cell (p := ⟨w.heap.size + 1, 1, none⟩) v1).trans d1
    have v1 : w.heap.size + 1 < w2.heap.size := by have := hb2.size; omega
    have v0 : w.heap.size < w2.heap.size := by have := hb2.size; omega
    have B2 := B1.trans (hb2.mono B1.size)
    have zz := B2.size
    clear hb2
    go_wp2_with fail
    refine bodyPost_ret (v := .tuple #[.agg #[.int .i64 0, .int .i64 0, .int .i64 0, .int .i64 0], .bool false]) (by simp [results, Try.results70, go_sem, r0, r1, r2, r3, v0]) rfl ⟨rfl, ?_⟩
    repeat (first | with_reducible assumption | with_reducible exact Below.refl _ _ | with_reducible apply Below.drew | ((with_reducible refine Below.setCell ?_ ?_ _); rotate_left; (first | exact Nat.le_refl _ | omega | (simp <;> omega))) | ((with_reducible refine Below.alloc ?_ ?_ _); rotate_left; (first | omega | (simp <;> omega))))
theorem implWidthIn_any (A : Option Addr) (c : Nat) (l : List (Int × Int)) (u v : Int) (w : World) (hn : l.length ≤ 1048576) (hR : Rd w w.heap.size A l) :
    Calls Try.prog 51 #[.slice A l.length c, .int .i64 u, .int .i64 v] w fun e w' => e = .returned (.tuple #[.int .i64 (wdS l u v), .bool (okW l u v)]) ∧ Below w.heap.size w w' := by
  have K := Lib.hid (spanIn_any A c l u v w hn hR)
  have hx : ∃ a b x y : Int, spV l u v = .agg #[.int .i64 x, .int .i64 y, .int .i64 a, .int .i64 b] ∧ wdS l u v = b - a ∧ -1600000 ≤ a ∧ a ≤ 1600000 ∧ -1600000 ≤ b ∧ b ≤ 1600000 := by
    by_cases hk : okW l u v = true
    · have hk2 : goodB l = true ∧ dirB u v = true := by unfold okW at hk; simpa using hk
      obtain ⟨a1, a2, a3, a4, _⟩ := dirB_t hk2.2
      have hg : Good l := by unfold goodB at hk2; simpa using hk2.1
      have hb := lohi_bd (u := u) (v := v) (by omega) (by omega) (by omega) (by omega) hg.pegs (by have := hg.few; omega) l.length (Nat.le_refl _)
      exact ⟨_, _, _, _, spV_t hk, wdS_t hk, hb.1.1, hb.1.2, hb.2.1.1, hb.2.1.2⟩
    · have hkf : okW l u v = false := by simpa using hk
      exact ⟨0, 0, 0, 0, spV_f hkf, by rw [wdS_f hkf]; rfl, by omega, by omega, by omega, by omega⟩
  obtain ⟨a, b, x, y, e1, e2, a1, a2, b1, b2⟩ := hx
  rw [e1] at K
  rw [e2]
  have KW := Lib.hid (fun W => width_any x y a b W a1 a2 b1 b2)
  generalize okW l u v = ok at *
  clear e1 e2 a1 a2 b1 b2 hR
  go_enter Try.func51, Try.ntmps51
  go_wp2_with fail
  refine K.out.mono ?_; rintro e w1 ⟨rfl, hb1⟩
  go_wp2_with fail
  obtain ⟨W2, hW2⟩ : ∃ W2, W2 = (w1.alloc (.cells #[.int .i64 x, .int .i64 y, .int .i64 a, .int .i64 b] 68)) := ⟨_, rfl⟩
  rw [← hW2]
  have yW20_0 : W2.cell? ⟨w1.heap.size, 0, none⟩ = some (.int .i64 x) := by rw [hW2]; go_simp
  have yW20_1 : W2.cell? ⟨w1.heap.size, 1, none⟩ = some (.int .i64 y) := by rw [hW2]; go_simp
  have yW20_2 : W2.cell? ⟨w1.heap.size, 2, none⟩ = some (.int .i64 a) := by rw [hW2]; go_simp
  have yW20_3 : W2.cell? ⟨w1.heap.size, 3, none⟩ = some (.int .i64 b) := by rw [hW2]; go_simp
  have fW20 : ∀ o, W2.frozen? ⟨w1.heap.size, o, none⟩ = false := by intro o; rw [hW2]; (repeat rw [frozen?_alloc_cells]); simp [World.frozen?]
  have zW20 : w1.heap.size < W2.heap.size := by rw [hW2]; simp <;> omega
  have BW2 : Below w1.heap.size w1 W2 := by rw [hW2]; exact (Below.alloc (Below.refl _ _) (by simp <;> omega) _)
  have eW2 : Hid (W2.heap.size = w1.heap.size + 1) := Lib.hid (by rw [hW2]; simp)
  clear hW2
  have B2 := hb1.trans (BW2.mono hb1.size)
  refine (KW.out _).mono ?_; rintro e w3 ⟨rfl, hb3⟩
  go_wp2_with fail
  go_ret2
  exact ⟨rfl, B2.trans (hb3.mono B2.size)⟩
end Go.Proofs.Ytheddoinnakneaa
/- contract: SupportOf, the program -/
namespace Go.Proofs.Ytheddoinnakneaa
open Go.ChangeShapes Go.WideShapes Go.ChangeAt Go.RowKit Go.Joins
set_option linter.unusedVariables false
set_option linter.unusedSimpArgs false
set_option maxRecDepth 4000
theorem ownB2 {w w' : World} {base B : Nat} {v : Value} {n : Nat} {xs : List Value} (h : w.ownsRow base 56 2 v n xs) (hb : Below B w w') (hB : w.heap.size ≤ B) : w'.ownsRow base 56 2 v n xs := by
  obtain ⟨h1, h2⟩ := h
  rcases h2 with h2 | ⟨g, cap, cur, hv, hg, hh, r⟩
  · exact ⟨h1, .inl h2⟩
  · have hl := World.ownsRow.lt (w := w) (base := base) (e := 56) (size := 2) (v := v) (n := n) (xs := xs) ⟨h1, .inr ⟨g, cap, cur, hv, hg, hh, r⟩⟩ g (by rw [hv]; rfl)
    exact ⟨h1, .inr ⟨g, cap, cur, hv, hg, (hb.block g (by omega)).trans hh, r⟩⟩
theorem flat_push (m : List (Int × Int)) (x y : Int) : flat (m ++ [(x, y)]) = flat m ++ [.int .i64 x, .int .i64 y] := by rw [flat_app]; rfl
set_option maxHeartbeats 8000000 in
theorem implSupportOf_any (A : Option Addr) (c : Nat) (l : List (Int × Int)) (u v : Int) (w : World) (hn : l.length ≤ 1048576) (hR : Rd w w.heap.size A l) :
    Calls Try.prog 44 #[.slice A l.length c, .int .i64 u, .int .i64 v] w (RetL w (supP l u v) (okW l u v)) := by
  have K := Lib.hid (spanIn_any A c l u v w hn hR)
  cases hk : okW l u v
  · rw [show supP l u v = [] from by unfold supP; rw [hk]; rfl]
    rw [spV_f hk, hk] at K
    clear hk hR
    go_enter Try.func44, Try.ntmps44
    go_wp2_with fail
    refine K.out.mono ?_; rintro e w1 ⟨rfl, hb1⟩
    go_wp2_with fail
    obtain ⟨W2, hW2⟩ : ∃ W2, W2 = (w1.alloc (.cells #[.int .i64 0, .int .i64 0, .int .i64 0, .int .i64 0] 68)) := ⟨_, rfl⟩
    rw [← hW2]
    have yW20_0 : W2.cell? ⟨w1.heap.size, 0, none⟩ = some (.int .i64 0) := by rw [hW2]; go_simp
    have yW20_1 : W2.cell? ⟨w1.heap.size, 1, none⟩ = some (.int .i64 0) := by rw [hW2]; go_simp
    have yW20_2 : W2.cell? ⟨w1.heap.size, 2, none⟩ = some (.int .i64 0) := by rw [hW2]; go_simp
    have yW20_3 : W2.cell? ⟨w1.heap.size, 3, none⟩ = some (.int .i64 0) := by rw [hW2]; go_simp
    have fW20 : ∀ o, W2.frozen? ⟨w1.heap.size, o, none⟩ = false := by intro o; rw [hW2]; (repeat rw [frozen?_alloc_cells]); simp [World.frozen?]
    have zW20 : w1.heap.size < W2.heap.size := by rw [hW2]; simp <;> omega
    have BW2 : Below w1.heap.size w1 W2 := by rw [hW2]; exact (Below.alloc (Below.refl _ _) (by simp <;> omega) _)
    have eW2 : Hid (W2.heap.size = w1.heap.size + 1) := Lib.hid (by rw [hW2]; simp)
    clear hW2
    go_ret2
    exact retL_nil (hb1.trans (BW2.mono hb1.size))
  · have hk2 : goodB l = true ∧ dirB u v = true := by unfold okW at hk; simpa using hk
    obtain ⟨a1, a2, a3, a4, _⟩ := dirB_t hk2.2
    have hg : Good l := by unfold goodB at hk2; simpa using hk2.1
    have hf := hg.few
    have hnd := good_nodup hg
    rw [show supP l u v = supF l u v (hiW l u v l.length) l.length from by rw [sup_same hnd]; unfold supP; rw [if_pos hk]]
    rw [spV_t hk, hk] at K
    have K2 := Lib.hid (fun W (hb : Below w.heap.size w W) => inOrder_any A c l.length l W rfl (by omega) (by omega) hnd (rd_more (rd_below hR hb (Nat.le_refl _)) hb.size))
    have hsl := srt_len l
    have KV := Lib.hid (fun i (hi : i < l.length) W => value_any u v (pt (srt l) i) W (by omega) (by omega) (by omega) (by omega) (by
      have hm : pt (srt l) i ∈ l := srt_mem.1 (pt_mem (by omega))
      obtain ⟨j, hj⟩ := List.mem_iff_getElem?.1 hm
      have hjl : j < l.length := by
        rcases Nat.lt_or_ge j l.length with h | h
        · exact h
        · rw [List.getElem?_eq_none h] at hj; cases hj
      rw [vx_get hjl] at hj
      injection hj with hj
      rw [← hj]
      exact hg.pegs j hjl))
    generalize hiW l u v l.length = hi at *
    generalize loW l u v l.length = lo at *
    have HYes := Lib.hid (fun k (hk : k < (srt l).length) h => supF_yes (u := u) (v := v) (h := hi) hk h)
    have HNo := Lib.hid (fun k (hk : k < (srt l).length) h => supF_no (u := u) (v := v) (h := hi) hk h)
    have HLe := Lib.hid (fun k => supF_len l u v hi k)
    have H0 : Hid (supF l u v hi 0 = []) := Lib.hid (by unfold supF; simp)
    obtain ⟨i0, hi0, hz0, hz1, hz2⟩ := info_parts peg_info
    have HI := Lib.hid (And.intro hi0 (And.intro hz0 (And.intro hz1 hz2)))
    have HRT : Hid (∀ vv w1 W, W.ownsRow w1.heap.size 56 2 vv (supF l u v hi l.length).length (flat (supF l u v hi l.length)) → Below w.heap.size w w1 → Below w1.heap.size w1 W → RetL w (supF l u v hi l.length) true (.returned (.tuple #[vv, .bool true])) W) := Lib.hid (fun vv w1 W h hb1 hb => by
      obtain ⟨A', c', rfl, g1, g2, g3⟩ := rw_of_own h
      exact retL_of_P hb1 g1 g2 hb g3)
    clear hk hk2 hR hg hnd hi0 hz0 hz1 hz2 a1 a2 a3 a4
    generalize supF l u v hi = S at *
    generalize srt l = s at *
    generalize hN : l.length = n at *
    have HSL := Lib.hid hsl
    rw [hsl] at HYes HNo
    clear hN hsl
    go_enter Try.func44, Try.ntmps44
    go_wp2_with fail
    refine K.out.mono ?_; rintro e w1 ⟨rfl, hb1⟩
    go_wp2_with fail
    obtain ⟨W2, hW2⟩ : ∃ W2, W2 = (w1.alloc (.cells #[.int .i64 u, .int .i64 v, .int .i64 lo, .int .i64 hi] 68)) := ⟨_, rfl⟩
    rw [← hW2]
    have yW20_0 : W2.cell? ⟨w1.heap.size, 0, none⟩ = some (.int .i64 u) := by rw [hW2]; go_simp
    have yW20_1 : W2.cell? ⟨w1.heap.size, 1, none⟩ = some (.int .i64 v) := by rw [hW2]; go_simp
    have yW20_2 : W2.cell? ⟨w1.heap.size, 2, none⟩ = some (.int .i64 lo) := by rw [hW2]; go_simp
    have yW20_3 : W2.cell? ⟨w1.heap.size, 3, none⟩ = some (.int .i64 hi) := by rw [hW2]; go_simp
    have fW20 : ∀ o, W2.frozen? ⟨w1.heap.size, o, none⟩ = false := by intro o; rw [hW2]; (repeat rw [frozen?_alloc_cells]); simp [World.frozen?]
    have zW20 : w1.heap.size < W2.heap.size := by rw [hW2]; simp <;> omega
    have BW2 : Below w1.heap.size w1 W2 := by rw [hW2]; exact (Below.alloc (Below.refl _ _) (by simp <;> omega) _)
    have eW2 : Hid (W2.heap.size = w1.heap.size + 1) := Lib.hid (by rw [hW2]; simp)
    clear hW2
    have B2 := hb1.trans (BW2.mono hb1.size)
    obtain ⟨g8, hg8⟩ : ∃ g, g = w1.heap.size := ⟨_, rfl⟩
    rw [← hg8] at yW20_0 yW20_1 yW20_2 yW20_3 zW20 ⊢
    clear hg8 K hb1 fW20 eW2 BW2
    refine (K2.out W2 B2).mono ?_; rintro e w3 ⟨⟨gs, cap, rfl, ho⟩, hb3⟩
    have hnc : n ≤ cap ∧ cap ≤ maxLen ∧ W2.heap.size ≤ gs ∧ gs < w3.heap.size := by
      rcases own_val ho with ⟨hv, h⟩ | ⟨g', cap', hv, h1, h2, h3, h4⟩
      · cases hv
      · injection hv with hv1 _ hv3
        injection hv1 with hv1
        injection hv1 with hv1
        subst hv1 hv3
        exact ⟨h1, h2, h3, h4⟩
    obtain ⟨hnc, hcm, hgl, zs⟩ := hnc
    unfold maxLen at hcm
    have HCS : Hid (∀ i, i < n → w3.cell? ⟨gs, i * 2, none⟩ = some (.int .i64 (pt s i).1) ∧ w3.cell? ⟨gs, i * 2 + 1, none⟩ = some (.int .i64 (pt s i).2)) := Lib.hid (fun i hi => own_pt ho HSL.out i hi)
    have B3 := B2.trans (hb3.mono B2.size)
    have HX : Hid (g8 < w3.heap.size ∧ w3.cell? ⟨g8, 0, none⟩ = some (.int .i64 u) ∧ w3.cell? ⟨g8, 1, none⟩ = some (.int .i64 v) ∧ w3.cell? ⟨g8, 2, none⟩ = some (.int .i64 lo) ∧ w3.cell? ⟨g8, 3, none⟩ = some (.int .i64 hi)) := Lib.hid ⟨Nat.lt_of_lt_of_le zW20 hb3.size, ((bcell hb3).1 _ 0 zW20).trans yW20_0, ((bcell hb3).1 _ 1 zW20).trans yW20_1, ((bcell hb3).1 _ 2 zW20).trans yW20_2, ((bcell hb3).1 _ 3 zW20).trans yW20_3⟩
    clear ho hb3 B2 K2 yW20_0 yW20_1 yW20_2 yW20_3 zW20 hgl
    go_wp2_with fail
    go_loopg [10, 25] n (fun g o i wr => ∃ (k : Nat) (vv : Value), vv = o ∧ k ≤ n ∧ g = n - k ∧ i = .int .i64 (k : Int) ∧ Below w3.heap.size w3 wr ∧ Hid (wr.ownsRow w3.heap.size 56 2 vv (S k).length (flat (S k))))
    case atStart => exact ⟨0, _, rfl, Nat.zero_le _, rfl, rfl, Below.refl _ _, Lib.hid (by rw [H0.out]; exact World.ownsRow_nil w3 w3.heap.size _ _)⟩
    case round =>
      obtain ⟨k, vv, rfl, hk, hg, rfl, hB, hO⟩ := hrel
      rename World => wo
      have HGK := Lib.hid hg
      clear hg
      by_cases hlt : k < n
      · obtain ⟨q1, q2⟩ := HCS.out k hlt
        have q1 := ((bcell hB).1 _ _ zs).trans q1
        have q2 := ((bcell hB).1 _ _ zs).trans q2
        have zs2 := Nat.lt_of_lt_of_le zs hB.size
        obtain ⟨hx0, hx1, hx2, hx3, hx4⟩ := HX.out
        have x1 := ((bcell hB).1 _ _ hx0).trans hx1
        have x2 := ((bcell hB).1 _ _ hx0).trans hx2
        have x4 := ((bcell hB).1 _ _ hx0).trans hx4
        have xz := Nat.lt_of_lt_of_le hx0 hB.size
        have hkc : k < cap := by omega
        have KV1 := Lib.hid (fun W => KV.out k hlt W)
        have HY1 := Lib.hid (HYes.out k hlt)
        have HN1 := Lib.hid (HNo.out k hlt)
        have hle := HLe.out k
        obtain ⟨p1, p2, hpe⟩ : ∃ p1 p2, pt s k = (p1, p2) := ⟨_, _, rfl⟩
        rw [hpe] at q1 q2 KV1 HY1 HN1
        simp only at q1 q2
        have hzo := hB.size
        clear hx0 hx1 hx2 hx3 hx4 hpe
        generalize vlu u v (p1, p2) = x at *
        go_wp2_with fail
        obtain ⟨Wp, hWp⟩ : ∃ Wp, Wp = (wo.alloc (.cells #[.int .i64 p1, .int .i64 p2] 56)) := ⟨_, rfl⟩
        rw [← hWp]
        have yWp0_0 : Wp.cell? ⟨wo.heap.size, 0, none⟩ = some (.int .i64 p1) := by rw [hWp]; go_simp
        have yWp0_1 : Wp.cell? ⟨wo.heap.size, 1, none⟩ = some (.int .i64 p2) := by rw [hWp]; go_simp
        have fWp0 : ∀ o, Wp.frozen? ⟨wo.heap.size, o, none⟩ = false := by intro o; rw [hWp]; (repeat rw [frozen?_alloc_cells]); simp [World.frozen?]
        have zWp0 : wo.heap.size < Wp.heap.size := by rw [hWp]; simp <;> omega
        have BWp : Below wo.heap.size wo Wp := by rw [hWp]; exact (Below.alloc (Below.refl _ _) (by simp <;> omega) _)
        have eWp : Hid (Wp.heap.size = wo.heap.size + 1) := Lib.hid (by rw [hWp]; simp)
        clear hWp
        have RP := Lib.hid (ownB2 hO.out BWp (Nat.le_refl _))
        have x1 := ((bcell BWp).1 _ _ xz).trans x1
        have x2 := ((bcell BWp).1 _ _ xz).trans x2
        have x4 := ((bcell BWp).1 _ _ xz).trans x4
        have xz := Nat.lt_of_lt_of_le xz BWp.size
        have BP := hB.trans (BWp.mono hzo)
        clear q1 q2 hB hO BWp fWp0 eWp zs2
        refine wp_region_B (fun W => Below Wp.heap.size Wp W) (by kernel_rfl) (by repeat (first | exact Below.refl _ _ | apply Below.drew)) ?_
        first | refine wpB_skip 0 rfl (by kernel_rfl) (by kernel_rfl) (by kernel_rfl) (by rfl) ?_ | (refine wpB_text 0 (v := ?_) rfl (by kernel_rfl) (by kernel_rfl) (by kernel_rfl) (by rfl) (fun W hW => ?_) ?_; rotate_left; (have k1 := hW; obtain ⟨hc1, hf1⟩ := bcell k1; go_simp; refine comes_v ?_; exact k1))
        (try simp only [Act.put, List.setIfInBounds_toArray, List.set_cons_zero, List.set_cons_succ])
        first | refine wpB_skip 1 rfl (by kernel_rfl) (by kernel_rfl) (by kernel_rfl) (by rfl) ?_ | (refine wpB_text 1 (v := ?_) rfl (by kernel_rfl) (by kernel_rfl) (by kernel_rfl) (by rfl) (fun W hW => ?_) ?_; rotate_left; (have k1 := hW; obtain ⟨hc1, hf1⟩ := bcell k1; go_simp; refine comes_v ?_; exact k1))
        (try simp only [Act.put, List.setIfInBounds_toArray, List.set_cons_zero, List.set_cons_succ])
        first | refine wpB_skip 2 rfl (by kernel_rfl) (by kernel_rfl) (by kernel_rfl) (by rfl) ?_ | (refine wpB_text 2 (v := ?_) rfl (by kernel_rfl) (by kernel_rfl) (by kernel_rfl) (by rfl) (fun W hW => ?_) ?_; rotate_left; (have k1 := hW; obtain ⟨hc1, hf1⟩ := bcell k1; go_simp; refine comes_v ?_; exact k1))
        (try simp only [Act.put, List.setIfInBounds_toArray, List.set_cons_zero, List.set_cons_succ])
        first | refine wpB_skip 3 rfl (by kernel_rfl) (by kernel_rfl) (by kernel_rfl) (by rfl) ?_ | (refine wpB_text 3 (v := .int .i64 x) rfl (by kernel_rfl) (by kernel_rfl) (by kernel_rfl) (by rfl) (fun W hW => ?_) ?_; (have k1 := hW; obtain ⟨hc1, hf1⟩ := bcell k1; go_simp; exact comes_c ( KV1.out _) (fun wn hbn => bt_keep k1 hbn)))
        (try simp only [Act.put, List.setIfInBounds_toArray, List.set_cons_zero, List.set_cons_succ])
        first | refine wpB_skip 4 rfl (by kernel_rfl) (by kernel_rfl) (by kernel_rfl) (by rfl) ?_ | (refine wpB_text 4 (v := ?_) rfl (by kernel_rfl) (by kernel_rfl) (by kernel_rfl) (by rfl) (fun W hW => ?_) ?_; rotate_left; (have k1 := hW; obtain ⟨hc1, hf1⟩ := bcell k1; go_simp; refine comes_v ?_; exact k1))
        (try simp only [Act.put, List.setIfInBounds_toArray, List.set_cons_zero, List.set_cons_succ])
        first | refine wpB_skip 5 rfl (by kernel_rfl) (by kernel_rfl) (by kernel_rfl) (by rfl) ?_ | (refine wpB_text 5 (v := ?_) rfl (by kernel_rfl) (by kernel_rfl) (by kernel_rfl) (by rfl) (fun W hW => ?_) ?_; rotate_left; (have k1 := hW; obtain ⟨hc1, hf1⟩ := bcell k1; go_simp; refine comes_v ?_; exact k1))
        (try simp only [Act.put, List.setIfInBounds_toArray, List.set_cons_zero, List.set_cons_succ])
        first | refine wpB_skip 6 rfl (by kernel_rfl) (by kernel_rfl) (by kernel_rfl) (by rfl) ?_ | (refine wpB_text 6 (v := ?_) rfl (by kernel_rfl) (by kernel_rfl) (by kernel_rfl) (by rfl) (fun W hW => ?_) ?_; rotate_left; (have k1 := hW; obtain ⟨hc1, hf1⟩ := bcell k1; go_simp; refine comes_v ?_; exact k1))
        (try simp only [Act.put, List.setIfInBounds_toArray, List.set_cons_zero, List.set_cons_succ])
        refine wpB_done (by kernel_rfl) ?_ _
        intro W hW; have k1 := hW
        have B4 := BP.trans (k1.mono BP.size)
        have R4 := Lib.hid (ownB2 RP.out k1 (Nat.le_refl _))
        have y0 := ((bcell k1).1 _ 0 zWp0).trans yWp0_0
        have y1 := ((bcell k1).1 _ 1 zWp0).trans yWp0_1
        have zy := Nat.lt_of_lt_of_le zWp0 k1.size
        have hz4 := B4.size
        clear k1 RP BP x1 x2 x4 xz yWp0_0 yWp0_1 zWp0 KV1
        by_cases hval : x = hi
        · have HM := Lib.hid (HY1.out hval)
          clear HY1 HN1
          generalize S k = m at *
          go_wp2_with (at_builtin; go_loud (refine wpList_append_own _ rfl (.tmp 36) (.tmp 38) 26 rfl w3.heap.size 56 i0 (.agg #[.int .i64 0, .int .i64 0]) 2 16 Try.underlying26 HI.out.1 HI.out.2.1 HI.out.2.2.1 HI.out.2.2.2 rfl (by decide) _ m.length (flat m) rfl (World.ownsRow.alloc R4.out _) ⟨_, 0, none⟩ 1 1 [.int .i64 p1, .int .i64 p2] rfl rfl (two_cells (by go_simp) (by go_simp)) (two_one _ _) (by unfold maxLen; omega) (by omega) (by simp; omega) ?_))
          intro v' w5 hown hgr _
          have BA := Below.alloc B4 hz4 (.cells #[.int .i64 p1, .int .i64 p2] 56)
          have R5 : Hid (w5.ownsRow w3.heap.size 56 2 v' (S (k + 1)).length (flat (S (k + 1)))) := Lib.hid (by
            rw [HM.out, flat_push, List.length_append]
            exact hown)
          have B5 := BA.grown hgr BA.size (fun g hg => (World.ownsRow.lt R4.out g hg).1)
          clear hown hgr BA B4 R4
          go_wp2_with fail
          go_roundg (n - (k + 1))
          case measure => have := HGK.out; omega
          case rel => exact ⟨k + 1, _, rfl, by omega, rfl, by go_num, B5, R5⟩
        · have HM := Lib.hid (HN1.out hval)
          clear HY1 HN1
          go_wp2_with fail
          go_roundg (n - (k + 1))
          case measure => have := HGK.out; omega
          case rel => exact ⟨k + 1, _, rfl, by omega, rfl, by go_num, B4, Lib.hid (by rw [HM.out]; exact R4.out)⟩
      · obtain rfl : k = n := by omega
        go_wp2_with fail
        go_ret2
        exact HRT.out _ _ _ hO.out B3 hB
end Go.Proofs.Ytheddoinnakneaa
/- what each law needs: lists marked, held against each other and against marks; arguments opened -/
namespace Go.Proofs.Ytheddoinnakneaa
open Go.ChangeShapes Go.WideShapes Go.ChangeAt Go.RowKit Go.Joins
set_option linter.unusedVariables false
set_option linter.unusedSimpArgs false
set_option maxRecDepth 4000
/-- what marks write: number after number -/
def mk (k : Int) (i : Nat) : Int × Int := (k + 2 * (i : Int), k + 2 * (i : Int) + 1)
def mix (k : Int) (i : Nat) (f : Nat → Int × Int) (j : Nat) : Int × Int := if j < i then mk k j else f j
theorem mix_step (k : Int) (i : Nat) (f : Nat → Int × Int) : (fun j => if j = i then mk k i else mix k i f j) = mix k (i + 1) f := by
  funext j
  unfold mix
  by_cases h : j = i
  · subst h; rw [if_pos rfl, if_pos (by omega)]
  · rw [if_neg h]
    by_cases h2 : j < i
    · rw [if_pos h2, if_pos (by omega)]
    · rw [if_neg h2, if_neg (by omega)]
/-- behind a mark -/
structure Marked (w w' : World) (lo B : Nat) (A : Option Addr) (n : Nat) (k : Int) (i : Nat) (f : Nat → Int × Int) : Prop where
  only : Only lo B w w'
  row : Rw w' lo B A n (mix k i f)
theorem marked_step {w w' : World} {lo B b off n i : Nat} {k : Int} {f : Nat → Int × Int} (h : Marked w w' lo B (some ⟨b, off, none⟩) n k i f) (hi : i < n) (hb : lo ≤ b) (hB : b < B) :
    Marked w ((w'.setCell ⟨b, off + i * 2, none⟩ (.int .i64 (k + 2 * (i : Int)))).setCell ⟨b, off + i * 2 + 1, none⟩ (.int .i64 (k + 2 * (i : Int) + 1))) lo B (some ⟨b, off, none⟩) n k (i + 1) f :=
  ⟨(h.only.set hb hB _).set hb hB _, by
    have := rw_store h.row hi (k + 2 * (i : Int)) (k + 2 * (i : Int) + 1)
    rw [show (fun j => if j = i then (k + 2 * (i : Int), k + 2 * (i : Int) + 1) else mix k i f j) = mix k (i + 1) f from mix_step k i f] at this
    exact this⟩
set_option maxHeartbeats 1000000 in
theorem markPegS_any (A : Option Addr) (c n : Nat) (k : Int) (lo B : Nat) (f : Nat → Int × Int) (w : World) (hn : n ≤ 1048576) (hk1 : 1 ≤ k) (hk2 : k ≤ 1000000000) (hR : Rw w lo B A n f) :
    Calls Try.prog 23 #[.slice A n c, .int .i64 k] w fun e w' => e = .returned (.int .i64 (k + 2 * (n : Int))) ∧ Only lo B w w' ∧ Rw w' lo B A n (mk k) := by
  have HM := Lib.hid (show Marked w w lo B A n k 0 f from ⟨Only.refl _ _ _, rw_same hR fun i hi => by unfold mix; rw [if_neg (by omega)]⟩)
  clear hR
  go_enter Try.func23, Try.ntmps23
  go_wp2_with fail
  go_loopg [1, 5] n (fun g u i wr => ∃ j : Nat, j ≤ n ∧ g = n - j ∧ i = .int .i64 j ∧ u = .int .i64 (k + 2 * (j : Int)) ∧ Hid (Marked w wr lo B A n k j f))
  case atStart => exact ⟨0, Nat.zero_le _, rfl, rfl, by simp, HM⟩
  case round =>
    obtain ⟨j, hj, hg, rfl, rfl, hM⟩ := hrel
    rename World => wo
    have HGK := Lib.hid hg
    clear hg HM
    by_cases hlt : j < n
    · obtain ⟨b, off, hA, hb1, hb2, hc⟩ := hM.out.row (by omega)
      subst hA
      obtain ⟨⟨c1, c2⟩, z1, z2⟩ := hc j hlt
      have M2 := Lib.hid (marked_step hM.out hlt hb1 hb2)
      clear hc hM
      have e1 : IntKind.i64.wrap (k + 2 * (j : Int) + 1) = k + 2 * (j : Int) + 1 := IntWalk.i64_in _ (by omega)
      go_wp2_with fail
      go_roundg (n - (j + 1))
      case measure => have := HGK.out; omega
      case rel => exact ⟨j + 1, by omega, rfl, by go_num, by go_num, M2⟩
    · have hjn : n = j := by omega
      subst hjn
      go_wp2_with fail
      go_ret
      exact ⟨rfl, hM.out.only, rw_same hM.out.row fun i hi => by unfold mix; rw [if_pos hi]⟩
set_option maxHeartbeats 1000000 in
theorem heldPegS_any (A : Option Addr) (c n : Nat) (k : Int) (lo B : Nat) (w : World) (hn : n ≤ 1048576) (hk1 : 1 ≤ k) (hk2 : k ≤ 1000000000) (hR : Rw w lo B A n (mk k)) :
    Calls Try.prog 35 #[.slice A n c, .int .i64 k] w fun e w' => e = .returned (.int .i64 (k + 2 * (n : Int))) ∧ w = w' := by
  have HR := Lib.hid hR
  clear hR
  go_enter Try.func35, Try.ntmps35
  go_wp2_with fail
  go_loopg [1, 5] n (fun g u i wr => ∃ j : Nat, j ≤ n ∧ g = n - j ∧ i = .int .i64 j ∧ u = .int .i64 (k + 2 * (j : Int)) ∧ w = wr)
  case atStart => exact ⟨0, Nat.zero_le _, rfl, rfl, by simp, rfl⟩
  case round =>
    obtain ⟨j, hj, hg, rfl, rfl, rfl⟩ := hrel
    have HGK := Lib.hid hg
    clear hg
    by_cases hlt : j < n
    · obtain ⟨b, off, hA, hb1, hb2, hc⟩ := HR.out (by omega)
      subst hA
      obtain ⟨⟨c1, c2⟩, z1, z2⟩ := hc j hlt
      have c1' : w.cell? ⟨b, off + j * 2, none⟩ = some (.int .i64 (k + 2 * (j : Int))) := c1
      have c2' : w.cell? ⟨b, off + j * 2 + 1, none⟩ = some (.int .i64 (k + 2 * (j : Int) + 1)) := c2
      clear hc c1 c2
      go_wp2_with fail
      go_roundg (n - (j + 1))
      case measure => have := HGK.out; omega
      case rel => exact ⟨j + 1, by omega, rfl, by go_num, by go_num, rfl⟩
    · have hjn : n = j := by omega
      subst hjn
      go_wp2_with fail
      go_ret
      exact ⟨rfl, rfl⟩
theorem law_eqX (l : List (Int × Int)) (hl : l.length ≤ 1048576) (W : World) (g g' c c' : Nat) (h : Set W g l.length l.length l) (h' : Set W g' l.length l.length l) :
    Calls Try.prog 19 #[.slice (some ⟨g, 0, none⟩) l.length c, .slice (some ⟨g', 0, none⟩) l.length c'] W fun e w' => e = .returned (.bool true) ∧ Below W.heap.size W w' :=
  (eqPegS_any _ _ c c' l l W hl hl (rd_of_set h) (rd_of_set h')).mono fun e w' hh => ⟨hh.1.trans (ret_bool (by simp)), hh.2⟩
theorem law_mark (l : List (Int × Int)) (hl : l.length ≤ 1048576) (W : World) (g c : Nat) (h : Set W g l.length l.length l) :
    Calls Try.prog 23 #[.slice (some ⟨g, 0, none⟩) l.length c, .int .i64 1] W fun e w' => e = .returned (.int .i64 (1 + 2 * (l.length : Int))) ∧ Only g (g + 1) W w' :=
  (markPegS_any _ c l.length 1 g (g + 1) (pt l) W hl (by omega) (by omega) (rw_of_set h)).mono fun e w' hh => ⟨hh.1, hh.2.1⟩
theorem only_grow {w W W' : World} {lo B : Nat} (h : Below w.heap.size w W) (ho : Only lo B W W') (hl : w.heap.size ≤ lo) : Below w.heap.size w W' := h.trans (ho.below.mono hl)
theorem below_grow {w W W' : World} (h : Below w.heap.size w W) (hb : Below W.heap.size W W') : Below w.heap.size w W' := h.trans (hb.mono h.size)
/-- a call that gives p points F and says whether there are such -/
def RetN (w : World) (p : Nat) (F : Nat → Int × Int) (b : Bool) (e : Ending) (w' : World) : Prop :=
  ∃ A c, e = .returned (.tuple #[.slice A p c, .bool b]) ∧ Below w.heap.size w w' ∧ Rw w' w.heap.size w'.heap.size A p F
theorem retN_of_L {w w' : World} {m : List (Int × Int)} {b : Bool} {e : Ending} (h : RetL w m b e w') : RetN w m.length (pt m) b e w' := by
  obtain ⟨A, c, h1, _, _, h4, h5⟩ := h
  exact ⟨A, c, h1, h4, h5⟩
theorem law_eq (m : List (Int × Int)) (hm : m.length ≤ 1048576) (W : World) (lo B lo' B' c c' : Nat) (A A' : Option Addr) (h : Rw W lo B A m.length (pt m)) (hB : B ≤ W.heap.size) (h' : Rw W lo' B' A' m.length (pt m)) (hB' : B' ≤ W.heap.size) :
    Calls Try.prog 19 #[.slice A m.length c, .slice A' m.length c'] W fun e w' => e = .returned (.bool true) ∧ Below W.heap.size W w' :=
  (eqPegS_any A A' c c' m m W hm hm (rd_more (rw_rd h) hB) (rd_more (rw_rd h') hB')).mono fun e w' hh => ⟨hh.1.trans (ret_bool (by simp)), hh.2⟩
open Go.Deep
theorem lt_of_cell {w : World} {a : Addr} {u : Value} (h : w.cell? a = some u) : a.block < w.heap.size := by
  rcases Nat.lt_or_ge a.block w.heap.size with h1 | h1
  · exact h1
  · unfold World.cell? at h
    rw [Array.getElem?_eq_none h1] at h
    simp at h
section
variable {H : Type} {enc : TypeId × Value → H}
/-- a point of the laws' package, read from two cells -/
theorem read_peg {w : World} {base : Nat} {spare : Nat → Bool} {held : Bool} {fuel : Nat} {c0 c1 : Value} {x : DataW H × List MemPlace}
    (h : DataW.trod enc Try.prog w base spare held fuel 64 [c0, c1] = some x) : ∃ a b : Int, c0 = .int .i64 a ∧ c1 = .int .i64 b := by
  obtain ⟨xs, n, _, _, _, hlen, hg⟩ := DataW.trod_struct Try.underlying64 h
  have g0 : DataW.trod enc Try.prog w base spare held n 3 ((List.drop 0 [c0, c1]).take (Try.prog.cellsOf 3)) = xs[0]? := hg 0 _ rfl
  have g1 : DataW.trod enc Try.prog w base spare held n 3 ((List.drop 1 [c0, c1]).take (Try.prog.cellsOf 3)) = xs[1]? := hg 1 _ rfl
  have k3 : Try.prog.cellsOf 3 = 1 := by kernel_rfl
  rw [k3] at g0 g1
  match xs, hlen with
  | [y0, y1], _ =>
    simp only [List.drop_zero, List.drop_succ_cons, List.take_succ_cons, List.take_zero, List.getElem?_cons_zero, List.getElem?_cons_succ] at g0 g1
    obtain ⟨a, e0, _, _⟩ := DataW.trod_int Try.underlying3 g0
    obtain ⟨b, e1, _, _⟩ := DataW.trod_int Try.underlying3 g1
    simp only [List.cons.injEq, and_true] at e0 e1
    exact ⟨a, b, e0, e1⟩
/-- an argument that is a list of points -/
theorem open_pegs {w : World} {r : Reach} {b0 base : Nat} {spare : Nat → Bool} {v : Value} {d : DataW H} {p : List MemPlace} (hv : Value.okWide Try.prog w r b0 22 v)
    (h : DataW.Trod enc Try.prog w base spare true 22 v d p) : ∃ (A : Option Addr) (c : Nat) (l : List (Int × Int)), v = .slice A l.length c ∧ l.length ≤ c ∧ c ≤ maxLen ∧ Rd w w.heap.size A l := by
  obtain ⟨a0, len, cap, rfl⟩ := okWide_slice Try.underlying22 hv
  obtain ⟨fuel, hf⟩ := h
  rcases open_slice Try.underlying22 hf with ⟨hcs, _⟩ | ⟨a, len', cap', m, n, D, Pl, hcs, _, hl, hm, hmm, _, hi⟩
  · simp [Value.cells] at hcs
    obtain ⟨rfl, rfl, rfl⟩ := hcs
    exact ⟨none, 0, [], rfl, by simp, by simp, fun h => absurd h (by simp)⟩
  · simp [Value.cells] at hcs
    obtain ⟨rfl, rfl, rfl⟩ := hcs
    have hml : len ≤ m := by rw [hmm]; split <;> omega
    have hC : Try.prog.cellsOf 64 = 2 := cells64
    have key : ∀ i, ∃ q : Int × Int, i < len → w.cell? (a.add (i * 2)) = some (.int .i64 q.1) ∧ w.cell? ((a.add (i * 2)).add 1) = some (.int .i64 q.2) := fun i => by
      by_cases hlt : i < len
      · obtain ⟨cs', hc, ht⟩ := hi i (by omega)
        rw [hC] at hc
        obtain ⟨_, hcl, hat⟩ := World.cells?_some hc
        match cs', hcl with
        | [c0, c1], _ =>
          obtain ⟨x, y, rfl, rfl⟩ := read_peg ht
          have h0 := hat 0 (by omega)
          have h1 := hat 1 (by omega)
          refine ⟨(x, y), fun _ => ⟨?_, h1⟩⟩
          have : (a.add (i * 2)).add 0 = a.add (i * 2) := by unfold Addr.add; simp
          rw [this] at h0
          exact h0
      · exact ⟨(0, 0), fun h => absurd h hlt⟩
    refine ⟨some a, cap, (List.range len).map fun i => Classical.choose (key i), by simp, by simpa using hl, hm, fun hpos => ?_⟩
    have hpos' : 0 < len := by simpa using hpos
    have k0 := (Classical.choose_spec (key 0) hpos').1
    obtain ⟨b, off, spot⟩ := a
    have hspot : spot = none := by simpa [Addr.add] using World.cell?_spot k0
    subst hspot
    refine ⟨b, off, rfl, ?_, fun i q hq => ?_⟩
    · have := lt_of_cell k0
      rw [add_plain] at this
      exact this
    · have hlt : i < len := by
        have := (List.getElem?_eq_some_iff.1 hq).1
        simpa using this
      have e : q = Classical.choose (key i) := by
        rw [List.getElem?_map, List.getElem?_range hlt] at hq
        simpa using hq.symm
      have hs := Classical.choose_spec (key i) hlt
      rw [← e] at hs
      rw [add_plain, add_plain] at hs
      exact hs
end
end Go.Proofs.Ytheddoinnakneaa

