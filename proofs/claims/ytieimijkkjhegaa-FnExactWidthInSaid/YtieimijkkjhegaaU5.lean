/- contracts: spans, the program -/
import Derived.Test.YtieimijkkjhegaaU0
import Derived.Test.YtieimijkkjhegaaRt
import Derived.Test.YtieimijkkjhegaaRn
import Derived.BigRegion
import Derived.OwnWalk
import Derived.Laws.Cover1
import Derived.Test.YtieimijkkjhegaaSax
namespace Go.Proofs.Ytieimijkkjhegaa
open Go.ChangeShapes Go.WideShapes Go.ChangeAt Go.RowKit Go.Joins
set_option linter.unusedVariables false
set_option linter.unusedSimpArgs false
set_option maxRecDepth 4000
theorem value_any (u v : Int) (p : Int × Int) (w : World) (h1 : -200 ≤ u) (h2 : u ≤ 200) (h3 : -200 ≤ v) (h4 : v ≤ 200) (hp : isPg p = true) :
    Calls Try.prog 137 #[.agg #[.int .i64 u, .int .i64 v], .agg #[.int .i64 p.1, .int .i64 p.2]] w fun e w' => e = .returned (.int .i64 (vlu u v p)) ∧ Below w.heap.size w w' := by
  obtain ⟨⟨p1, p2⟩, p3, p4⟩ := vlu_parts h1 h2 h3 h4 hp
  have i0 : IntKind.i64.wrap (u * p.1) = u * p.1 := IntWalk.i64_in _ (by omega)
  have i1 : IntKind.i64.wrap (v * p.2) = v * p.2 := IntWalk.i64_in _ (by omega)
  have i2 : IntKind.i64.wrap (u * p.1 + v * p.2) = u * p.1 + v * p.2 := IntWalk.i64_in _ (by omega)
  clear h1 h2 h3 h4 hp p1 p2 p3 p4
  go_enter Try.func137, Try.ntmps137
  go_wp2_with fail
  go_ret
  exact ⟨rfl, (by repeat (first | exact Below.refl _ _ | assumption | apply Below.drew | refine Below.alloc ?_ (by simp <;> omega) _))⟩
/-- a span's box, one of our own -/
structure Spn (w wr : World) (g : Nat) (u v a b : Int) : Prop where
  below : Below w.heap.size w wr
  lo : w.heap.size ≤ g
  up : g < wr.heap.size
  c0 : wr.cell? ⟨g, 0, none⟩ = some (.int .i64 u)
  c1 : wr.cell? ⟨g, 1, none⟩ = some (.int .i64 v)
  c2 : wr.cell? ⟨g, 2, none⟩ = some (.int .i64 a)
  c3 : wr.cell? ⟨g, 3, none⟩ = some (.int .i64 b)
  fz : ∀ o, wr.frozen? ⟨g, o, none⟩ = false
theorem spn_below {w wr W : World} {g : Nat} {u v a b : Int} (t : Spn w wr g u v a b) (hb : Below wr.heap.size wr W) : Spn w W g u v a b := by
  obtain ⟨t1, t2, t3, t4, t5, t6, t7, t8⟩ := t
  have hc := (bcell hb).1
  have hf := (bcell hb).2
  have hz := hb.size
  exact ⟨t1.trans (hb.mono t1.size), t2, by omega, (hc _ _ t3).trans t4, (hc _ _ t3).trans t5, (hc _ _ t3).trans t6, (hc _ _ t3).trans t7, fun o => (hf _ _ t3).trans (t8 o)⟩
theorem spn_a {w wr : World} {g : Nat} {u v a b : Int} (t : Spn w wr g u v a b) (x : Int) : Spn w (wr.setCell ⟨g, 2, none⟩ (.int .i64 x)) g u v x b := by
  obtain ⟨t1, t2, t3, t4, t5, t6, t7, t8⟩ := t
  have o : ∀ k, k ≠ 2 → (wr.setCell ⟨g, 2, none⟩ (.int .i64 x)).cell? ⟨g, k, none⟩ = wr.cell? ⟨g, k, none⟩ := fun k hk => World.cell?_setCell_other _ _ _ _ (fun e => hk (by injection e with e1 e2; exact e2.symm))
  exact ⟨t1.setCell t2 _, t2, by simpa [World.setCell] using t3, (o 0 (by omega)).trans t4, (o 1 (by omega)).trans t5, World.cell?_setCell_same _ _ _ t6, (o 3 (by omega)).trans t7, fun k => by rw [World.frozen?_setCell]; exact t8 k⟩
theorem spn_b {w wr : World} {g : Nat} {u v a b : Int} (t : Spn w wr g u v a b) (x : Int) : Spn w (wr.setCell ⟨g, 3, none⟩ (.int .i64 x)) g u v a x := by
  obtain ⟨t1, t2, t3, t4, t5, t6, t7, t8⟩ := t
  have o : ∀ k, k ≠ 3 → (wr.setCell ⟨g, 3, none⟩ (.int .i64 x)).cell? ⟨g, k, none⟩ = wr.cell? ⟨g, k, none⟩ := fun k hk => World.cell?_setCell_other _ _ _ _ (fun e => hk (by injection e with e1 e2; exact e2.symm))
  exact ⟨t1.setCell t2 _, t2, by simpa [World.setCell] using t3, (o 0 (by omega)).trans t4, (o 1 (by omega)).trans t5, (o 2 (by omega)).trans t6, World.cell?_setCell_same _ _ _ t7, fun k => by rw [World.frozen?_setCell]; exact t8 k⟩
theorem spn_new (w w1 : World) (t : TypeId) (h : Below w.heap.size w w1) : Spn w (w1.alloc (.cells #[.int .i64 0, .int .i64 0, .int .i64 0, .int .i64 0] t)) w1.heap.size 0 0 0 0 :=
  ⟨Below.alloc h h.size _, h.size, by simp, by go_simp, by go_simp, by go_simp, by go_simp, fun o => by rw [frozen?_alloc_cells]; simp [World.frozen?]⟩
theorem spn_u {w wr : World} {g : Nat} {u v a b : Int} (t : Spn w wr g u v a b) (x : Int) : Spn w (wr.setCell ⟨g, 0, none⟩ (.int .i64 x)) g x v a b := by
  obtain ⟨t1, t2, t3, t4, t5, t6, t7, t8⟩ := t
  have o : ∀ k, k ≠ 0 → (wr.setCell ⟨g, 0, none⟩ (.int .i64 x)).cell? ⟨g, k, none⟩ = wr.cell? ⟨g, k, none⟩ := fun k hk => World.cell?_setCell_other _ _ _ _ (fun e => hk (by injection e with e1 e2; exact e2.symm))
  exact ⟨t1.setCell t2 _, t2, by simpa [World.setCell] using t3, World.cell?_setCell_same _ _ _ t4, (o 1 (by omega)).trans t5, (o 2 (by omega)).trans t6, (o 3 (by omega)).trans t7, fun k => by rw [World.frozen?_setCell]; exact t8 k⟩
theorem spn_v {w wr : World} {g : Nat} {u v a b : Int} (t : Spn w wr g u v a b) (x : Int) : Spn w (wr.setCell ⟨g, 1, none⟩ (.int .i64 x)) g u x a b := by
  obtain ⟨t1, t2, t3, t4, t5, t6, t7, t8⟩ := t
  have o : ∀ k, k ≠ 1 → (wr.setCell ⟨g, 1, none⟩ (.int .i64 x)).cell? ⟨g, k, none⟩ = wr.cell? ⟨g, k, none⟩ := fun k hk => World.cell?_setCell_other _ _ _ _ (fun e => hk (by injection e with e1 e2; exact e2.symm))
  exact ⟨t1.setCell t2 _, t2, by simpa [World.setCell] using t3, (o 0 (by omega)).trans t4, World.cell?_setCell_same _ _ _ t5, (o 2 (by omega)).trans t6, (o 3 (by omega)).trans t7, fun k => by rw [World.frozen?_setCell]; exact t8 k⟩
theorem spn_sets {w wr : World} {g : Nat} {u v a b : Int} (t : Spn w wr g u v a b) (x0 x1 x2 x3 : Int) : Spn w ((((wr.setCell ⟨g, 0, none⟩ (.int .i64 x0)).setCell ⟨g, 1, none⟩ (.int .i64 x1)).setCell ⟨g, 2, none⟩ (.int .i64 x2)).setCell ⟨g, 3, none⟩ (.int .i64 x3)) g x0 x1 x2 x3 :=
  spn_b (spn_a (spn_v (spn_u t x0) x1) x2) x3
theorem min_if' (x y : Int) : (if y < x then y else x) = min x y := by omega
theorem max_if' (x y : Int) : (if x < y then y else x) = max x y := by omega
set_option maxRecDepth 100000 in
set_option maxHeartbeats 4000000 in
theorem spanOf_any (A : Option Addr) (c : Nat) (l : List (Int × Int)) (u v : Int) (w : World) (h1 : -200 ≤ u) (h2 : u ≤ 200) (h3 : -200 ≤ v) (h4 : v ≤ 200) (hg : Good l) (hR : Rd w w.heap.size A l) :
    Calls Try.prog 120 #[.slice A l.length c, .agg #[.int .i64 u, .int .i64 v]] w fun e w' => e = .returned (.agg #[.int .i64 u, .int .i64 v, .int .i64 (loW l u v l.length), .int .i64 (hiW l u v l.length)]) ∧ Below w.heap.size w w' := by
  have hf := hg.few
  obtain ⟨b, off, rfl, hb, HC⟩ := pts_of (by omega) hR
  have KV := Lib.hid (fun i (hi : i < l.length) W => value_any u v (vx l i) W h1 h2 h3 h4 (hg.pegs i hi))
  have HBD := Lib.hid (lohi_bd h1 h2 h3 h4 hg.pegs (by omega))
  have HS : Hid (∀ k, loW l u v (k + 1) = min (loW l u v k) (vlu u v (vx l k)) ∧ hiW l u v (k + 1) = max (hiW l u v k) (vlu u v (vx l k))) := Lib.hid (fun k => ⟨rfl, rfl⟩)
  have H0 : Hid (loW l u v 0 = vlu u v (vx l 0) ∧ hiW l u v 0 = vlu u v (vx l 0)) := Lib.hid ⟨rfl, rfl⟩
  have h3l := hf.1
  have h10 := hf.2
  clear hR hf hg h1 h2 h3 h4
  generalize hN : l.length = n at *
  clear hN
  have hn0 : 0 < n := by omega
  go_enter Try.func120, Try.ntmps120
  go_wp2_with fail
  obtain ⟨W0, hW0⟩ : ∃ W0, W0 = ((w.alloc (.cells #[.int .i64 u, .int .i64 v] 100)).alloc (.cells #[.int .i64 0, .int .i64 0, .int .i64 0, .int .i64 0] 102)) := ⟨_, rfl⟩
  rw [← hW0]
  have yW00_0 : W0.cell? ⟨w.heap.size, 0, none⟩ = some (.int .i64 u) := by rw [hW0]; go_simp
  have yW00_1 : W0.cell? ⟨w.heap.size, 1, none⟩ = some (.int .i64 v) := by rw [hW0]; go_simp
  have fW00 : ∀ o, W0.frozen? ⟨w.heap.size, o, none⟩ = false := by intro o; rw [hW0]; (repeat rw [frozen?_alloc_cells]); simp [World.frozen?]
  have zW00 : w.heap.size < W0.heap.size := by rw [hW0]; simp <;> omega
  have yW01_0 : W0.cell? ⟨w.heap.size + 1, 0, none⟩ = some (.int .i64 0) := by rw [hW0]; go_simp
  have yW01_1 : W0.cell? ⟨w.heap.size + 1, 1, none⟩ = some (.int .i64 0) := by rw [hW0]; go_simp
  have yW01_2 : W0.cell? ⟨w.heap.size + 1, 2, none⟩ = some (.int .i64 0) := by rw [hW0]; go_simp
  have yW01_3 : W0.cell? ⟨w.heap.size + 1, 3, none⟩ = some (.int .i64 0) := by rw [hW0]; go_simp
  have fW01 : ∀ o, W0.frozen? ⟨w.heap.size + 1, o, none⟩ = false := by intro o; rw [hW0]; (repeat rw [frozen?_alloc_cells]); simp [World.frozen?]
  have zW01 : w.heap.size + 1 < W0.heap.size := by rw [hW0]; simp <;> omega
  have BW0 : Below w.heap.size w W0 := by rw [hW0]; exact (Below.alloc (Below.alloc (Below.refl _ _) (by simp <;> omega) _) (by simp <;> omega) _)
  have eW0 : Hid (W0.heap.size = w.heap.size + 2) := Lib.hid (by rw [hW0]; simp)
  clear hW0
  obtain ⟨x0, x1⟩ := HC.out W0 BW0 0 (by omega)
  simp only [Nat.zero_mul, Nat.add_zero] at x0 x1
  have K0 := Lib.hid (fun W => KV.out 0 (by omega) W)
  generalize hv0 : vlu u v (vx l 0) = v0 at *
  have HV0 := Lib.hid hv0
  clear hv0
  have D0 := yW00_0
  have D1 := yW00_1
  have hb0 : b < W0.heap.size := by have := BW0.size; omega
  refine wp_region_AL 12 (W0) (obj := .cells #[.int .i64 0, .int .i64 0, .int .i64 0, .int .i64 0] 102) (by kernel_rfl) (by kernel_rfl) (by repeat (first | exact Below.refl _ _ | apply Below.drew)) rfl (fun _ => by rfl) (fun _ _ => by first | rfl | go_simp) ?_
  simp only [List.take_succ_cons, List.take_zero, List.drop_succ_cons, List.drop_zero]
  first | refine wpR_skip (by rfl) ?_ | (refine wpR_text (v := ?_) (by rfl) (fun W k1 => ?_) ?_; rotate_left; (obtain ⟨hc1, hf1⟩ := bcell k1;  go_simp; refine comes_v ?_; exact Below.refl _ _))
  (try simp only [Act.put, List.setIfInBounds_toArray, List.set_cons_zero, List.set_cons_succ])
  first | refine wpR_skip (by rfl) ?_ | (refine wpR_text (v := ?_) (by rfl) (fun W k1 => ?_) ?_; rotate_left; (obtain ⟨hc1, hf1⟩ := bcell k1;  go_simp; refine comes_v ?_; exact Below.refl _ _))
  (try simp only [Act.put, List.setIfInBounds_toArray, List.set_cons_zero, List.set_cons_succ])
  first | refine wpR_skip (by rfl) ?_ | (refine wpR_text (v := ?_) (by rfl) (fun W k1 => ?_) ?_; rotate_left; (obtain ⟨hc1, hf1⟩ := bcell k1;  go_simp; refine comes_v ?_; exact Below.refl _ _))
  (try simp only [Act.put, List.setIfInBounds_toArray, List.set_cons_zero, List.set_cons_succ])
  first | refine wpR_skip (by rfl) ?_ | (refine wpR_text (v := ?_) (by rfl) (fun W k1 => ?_) ?_; rotate_left; (obtain ⟨hc1, hf1⟩ := bcell k1;  go_simp; refine comes_v ?_; exact Below.refl _ _))
  (try simp only [Act.put, List.setIfInBounds_toArray, List.set_cons_zero, List.set_cons_succ])
  first | refine wpR_skip (by rfl) ?_ | (refine wpR_text (v := ?_) (by rfl) (fun W k1 => ?_) ?_; rotate_left; (obtain ⟨hc1, hf1⟩ := bcell k1;  go_simp; refine comes_v ?_; exact Below.refl _ _))
  (try simp only [Act.put, List.setIfInBounds_toArray, List.set_cons_zero, List.set_cons_succ])
  first | refine wpR_skip (by rfl) ?_ | (refine wpR_text (v := .int .i64 v0) (by rfl) (fun W k1 => ?_) ?_; (obtain ⟨hc1, hf1⟩ := bcell k1;  go_simp; exact comes_c ( K0.out _) (fun wn hbn => hbn)))
  (try simp only [Act.put, List.setIfInBounds_toArray, List.set_cons_zero, List.set_cons_succ])
  first | refine wpR_skip (by rfl) ?_ | (refine wpR_text (v := ?_) (by rfl) (fun W k1 => ?_) ?_; rotate_left; (obtain ⟨hc1, hf1⟩ := bcell k1;  go_simp; refine comes_v ?_; exact Below.refl _ _))
  (try simp only [Act.put, List.setIfInBounds_toArray, List.set_cons_zero, List.set_cons_succ])
  first | refine wpR_skip (by rfl) ?_ | (refine wpR_text (v := ?_) (by rfl) (fun W k1 => ?_) ?_; rotate_left; (obtain ⟨hc1, hf1⟩ := bcell k1;  go_simp; refine comes_v ?_; exact Below.refl _ _))
  (try simp only [Act.put, List.setIfInBounds_toArray, List.set_cons_zero, List.set_cons_succ])
  first | refine wpR_skip (by rfl) ?_ | (refine wpR_text (v := ?_) (by rfl) (fun W k1 => ?_) ?_; rotate_left; (obtain ⟨hc1, hf1⟩ := bcell k1;  go_simp; refine comes_v ?_; exact Below.refl _ _))
  (try simp only [Act.put, List.setIfInBounds_toArray, List.set_cons_zero, List.set_cons_succ])
  first | refine wpR_skip (by rfl) ?_ | (refine wpR_text (v := ?_) (by rfl) (fun W k1 => ?_) ?_; rotate_left; (obtain ⟨hc1, hf1⟩ := bcell k1;  go_simp; refine comes_v ?_; exact Below.refl _ _))
  (try simp only [Act.put, List.setIfInBounds_toArray, List.set_cons_zero, List.set_cons_succ])
  first | refine wpR_skip (by rfl) ?_ | (refine wpR_text (v := .int .i64 v0) (by rfl) (fun W k1 => ?_) ?_; (obtain ⟨hc1, hf1⟩ := bcell k1;  go_simp; exact comes_c ( K0.out _) (fun wn hbn => hbn)))
  (try simp only [Act.put, List.setIfInBounds_toArray, List.set_cons_zero, List.set_cons_succ])
  first | refine wpR_skip (by rfl) ?_ | (refine wpR_text (v := ?_) (by rfl) (fun W k1 => ?_) ?_; rotate_left; (obtain ⟨hc1, hf1⟩ := bcell k1;  go_simp; refine comes_v ?_; exact Below.refl _ _))
  (try simp only [Act.put, List.setIfInBounds_toArray, List.set_cons_zero, List.set_cons_succ])
  refine wpR_nil ?_
  intro W1 W k1 k2
  (try simp only [Act.put, List.setIfInBounds_toArray, List.set_cons_zero, List.set_cons_succ])
  have T0 := Lib.hid (spn_below (spn_new W0 W1 102 k1) k2)
  have T1 := Lib.hid (spn_sets T0.out u v v0 v0)
  obtain ⟨t1, t2, t3, t4, t5, t6, t7, t8⟩ := T0.out
  clear k1 k2 x0 x1 t1 T0 K0
  go_wp2_with fail
  have T2 := T1.out
  clear T1 t3 t4 t5 t6 t7 t8
  obtain ⟨g, hg⟩ : ∃ x, x = W1.heap.size := ⟨_, rfl⟩
  rw [← hg] at T2 t2 ⊢
  clear hg
  generalize ((((W.setCell ⟨g, 0, none⟩ (.int .i64 u)).setCell ⟨g, 1, none⟩ (.int .i64 v)).setCell ⟨g, 2, none⟩ (.int .i64 v0)).setCell ⟨g, 3, none⟩ (.int .i64 v0)) = W2 at T2 ⊢
  have T3 : Hid (Spn W0 W2 g u v (loW l u v 0) (hiW l u v 0)) := Lib.hid (by rw [H0.out.1, H0.out.2]; exact T2)
  clear T2
  go_wp2_with fail
  go_loopg [22] n (fun gg i wr => ∃ k : Nat, k ≤ n ∧ gg = n - k ∧ i = .int .i64 k ∧ Hid (Spn W0 wr g u v (loW l u v k) (hiW l u v k)))
  case atStart => exact ⟨0, Nat.zero_le _, rfl, rfl, T3⟩
  case round =>
    clear T3
    obtain ⟨k, hk, hgg, rfl, hT⟩ := hrel
    rename World => wo
    have HGK := Lib.hid hgg
    clear hgg
    by_cases hlt : k < n
    · obtain ⟨x0, x1⟩ := HC.out wo (BW0.trans (hT.out.below.mono BW0.size)) k hlt
      have hbo : b < wo.heap.size := by have := hT.out.below.size; omega
      obtain ⟨s1, s2⟩ := HS.out k
      have K1 := Lib.hid (fun W => KV.out k hlt W)
      generalize vlu u v (vx l k) = z at *
      have hup := hT.out.up
      go_wp2_with fail
      obtain ⟨Wb, hWb⟩ : ∃ Wb, Wb = (wo.alloc (.cells #[.int .i64 ((vx l k).1), .int .i64 ((vx l k).2)] 42)) := ⟨_, rfl⟩
      rw [← hWb]
      have yWb0_0 : Wb.cell? ⟨wo.heap.size, 0, none⟩ = some (.int .i64 ((vx l k).1)) := by rw [hWb]; go_simp
      have yWb0_1 : Wb.cell? ⟨wo.heap.size, 1, none⟩ = some (.int .i64 ((vx l k).2)) := by rw [hWb]; go_simp
      have fWb0 : ∀ o, Wb.frozen? ⟨wo.heap.size, o, none⟩ = false := by intro o; rw [hWb]; (repeat rw [frozen?_alloc_cells]); simp [World.frozen?]
      have zWb0 : wo.heap.size < Wb.heap.size := by rw [hWb]; simp <;> omega
      have BWb : Below wo.heap.size wo Wb := by rw [hWb]; exact (Below.alloc (Below.refl _ _) (by simp <;> omega) _)
      have eWb : Hid (Wb.heap.size = wo.heap.size + 1) := Lib.hid (by rw [hWb]; simp)
      clear hWb
      have T1 := Lib.hid (spn_below hT.out BWb)
      have c2 := T1.out.c2
      have zg := T1.out.up
      have E0 := (T1.out.below.cell (p := ⟨w.heap.size, 0, none⟩) zW00).trans D0
      have E1 := (T1.out.below.cell (p := ⟨w.heap.size, 1, none⟩) zW00).trans D1
      have ze : w.heap.size < Wb.heap.size := by have := T1.out.below.size; omega
      have gne : g ≠ wo.heap.size := by omega
      clear hT x0 x1 BWb fWb0 eWb
      generalize loW l u v k = lo at *
      generalize hiW l u v k = hi at *
      have mn := min_if' lo z
      have mx := max_if' hi z
      refine wp_region_BT 7 (fun W => Below (Wb).heap.size (Wb) W) (by kernel_rfl) (by kernel_rfl) (by repeat (first | exact Below.refl _ _ | apply Below.drew)) ?_
      simp only [List.take_succ_cons, List.take_zero, List.drop_succ_cons, List.drop_zero]
      first | refine wpH_skip (by rfl) ?_ | (refine wpH_text (v := ?_) (by rfl) (fun W k1 => ?_) ?_; rotate_left; (obtain ⟨hc1, hf1⟩ := bcell k1;  go_simp; refine comes_v ?_; exact k1))
      (try simp only [Act.put, List.setIfInBounds_toArray, List.set_cons_zero, List.set_cons_succ])
      first | refine wpH_skip (by rfl) ?_ | (refine wpH_text (v := ?_) (by rfl) (fun W k1 => ?_) ?_; rotate_left; (obtain ⟨hc1, hf1⟩ := bcell k1;  go_simp; refine comes_v ?_; exact k1))
      (try simp only [Act.put, List.setIfInBounds_toArray, List.set_cons_zero, List.set_cons_succ])
      first | refine wpH_skip (by rfl) ?_ | (refine wpH_text (v := ?_) (by rfl) (fun W k1 => ?_) ?_; rotate_left; (obtain ⟨hc1, hf1⟩ := bcell k1;  go_simp; refine comes_v ?_; exact k1))
      (try simp only [Act.put, List.setIfInBounds_toArray, List.set_cons_zero, List.set_cons_succ])
      first | refine wpH_skip (by rfl) ?_ | (refine wpH_text (v := ?_) (by rfl) (fun W k1 => ?_) ?_; rotate_left; (obtain ⟨hc1, hf1⟩ := bcell k1;  go_simp; refine comes_v ?_; exact k1))
      (try simp only [Act.put, List.setIfInBounds_toArray, List.set_cons_zero, List.set_cons_succ])
      first | refine wpH_skip (by rfl) ?_ | (refine wpH_text (v := .int .i64 z) (by rfl) (fun W k1 => ?_) ?_; (obtain ⟨hc1, hf1⟩ := bcell k1;  go_simp; exact comes_c ( K1.out _) (fun wn hbn => k1.trans (hbn.mono k1.size))))
      (try simp only [Act.put, List.setIfInBounds_toArray, List.set_cons_zero, List.set_cons_succ])
      first | refine wpH_skip (by rfl) ?_ | (refine wpH_text (v := ?_) (by rfl) (fun W k1 => ?_) ?_; rotate_left; (obtain ⟨hc1, hf1⟩ := bcell k1;  go_simp; refine comes_v ?_; exact k1))
      (try simp only [Act.put, List.setIfInBounds_toArray, List.set_cons_zero, List.set_cons_succ])
      first | refine wpH_skip (by rfl) ?_ | (refine wpH_text (v := ?_) (by rfl) (fun W k1 => ?_) ?_; rotate_left; (obtain ⟨hc1, hf1⟩ := bcell k1;  go_simp; refine comes_v ?_; exact k1))
      (try simp only [Act.put, List.setIfInBounds_toArray, List.set_cons_zero, List.set_cons_succ])
      refine wpH_nil ?_
      intro W k1; obtain ⟨hc1, hf1⟩ := bcell k1
      have T2 := Lib.hid (spn_a (spn_below T1.out k1) (min lo z))
      have d2 := (spn_below T1.out k1).c2
      have d3 := (spn_below T1.out k1).fz 2
      have d4 := (spn_below T1.out k1).up
      have p0 := (hc1 _ 0 zWb0).trans yWb0_0
      have p1 := (hc1 _ 1 zWb0).trans yWb0_1
      have zp := Nat.lt_of_lt_of_le zWb0 k1.size
      clear hc1 hf1 k1 c2 zg E0 E1 ze yWb0_0 yWb0_1 zWb0 T1
      go_wp2_with fail
      try simp only [mn]
      obtain ⟨W3, hW3⟩ : ∃ W3, W3 = W.setCell ⟨g, 2, none⟩ (.int .i64 (min lo z)) := ⟨_, rfl⟩
      rw [← hW3]
      rw [← hW3] at T2
      have p0' : W3.cell? ⟨wo.heap.size, 0, none⟩ = some (.int .i64 (vx l k).1) := by
        rw [hW3, World.cell?_setCell_other _ _ _ _ (fun e => gne (by injection e))]; exact p0
      have p1' : W3.cell? ⟨wo.heap.size, 1, none⟩ = some (.int .i64 (vx l k).2) := by
        rw [hW3, World.cell?_setCell_other _ _ _ _ (fun e => gne (by injection e))]; exact p1
      have zp3 : wo.heap.size < W3.heap.size := by rw [hW3]; simpa [World.setCell] using zp
      clear hW3 d2 d3 d4 p0 p1 zp
      have c3 := T2.out.c3
      have zg := T2.out.up
      have E0 := (T2.out.below.cell (p := ⟨w.heap.size, 0, none⟩) zW00).trans D0
      have E1 := (T2.out.below.cell (p := ⟨w.heap.size, 1, none⟩) zW00).trans D1
      have ze : w.heap.size < W3.heap.size := by have := T2.out.below.size; omega
      go_wp2_with fail
      refine wp_region_BT 7 (fun W => Below (W3).heap.size (W3) W) (by kernel_rfl) (by kernel_rfl) (by repeat (first | exact Below.refl _ _ | apply Below.drew)) ?_
      simp only [List.take_succ_cons, List.take_zero, List.drop_succ_cons, List.drop_zero]
      first | refine wpH_skip (by rfl) ?_ | (refine wpH_text (v := ?_) (by rfl) (fun W k1 => ?_) ?_; rotate_left; (obtain ⟨hc1, hf1⟩ := bcell k1;  go_simp; refine comes_v ?_; exact k1))
      (try simp only [Act.put, List.setIfInBounds_toArray, List.set_cons_zero, List.set_cons_succ])
      first | refine wpH_skip (by rfl) ?_ | (refine wpH_text (v := ?_) (by rfl) (fun W k1 => ?_) ?_; rotate_left; (obtain ⟨hc1, hf1⟩ := bcell k1;  go_simp; refine comes_v ?_; exact k1))
      (try simp only [Act.put, List.setIfInBounds_toArray, List.set_cons_zero, List.set_cons_succ])
      first | refine wpH_skip (by rfl) ?_ | (refine wpH_text (v := ?_) (by rfl) (fun W k1 => ?_) ?_; rotate_left; (obtain ⟨hc1, hf1⟩ := bcell k1;  go_simp; refine comes_v ?_; exact k1))
      (try simp only [Act.put, List.setIfInBounds_toArray, List.set_cons_zero, List.set_cons_succ])
      first | refine wpH_skip (by rfl) ?_ | (refine wpH_text (v := ?_) (by rfl) (fun W k1 => ?_) ?_; rotate_left; (obtain ⟨hc1, hf1⟩ := bcell k1;  go_simp; refine comes_v ?_; exact k1))
      (try simp only [Act.put, List.setIfInBounds_toArray, List.set_cons_zero, List.set_cons_succ])
      first | refine wpH_skip (by rfl) ?_ | (refine wpH_text (v := .int .i64 z) (by rfl) (fun W k1 => ?_) ?_; (obtain ⟨hc1, hf1⟩ := bcell k1;  go_simp; exact comes_c ( K1.out _) (fun wn hbn => k1.trans (hbn.mono k1.size))))
      (try simp only [Act.put, List.setIfInBounds_toArray, List.set_cons_zero, List.set_cons_succ])
      first | refine wpH_skip (by rfl) ?_ | (refine wpH_text (v := ?_) (by rfl) (fun W k1 => ?_) ?_; rotate_left; (obtain ⟨hc1, hf1⟩ := bcell k1;  go_simp; refine comes_v ?_; exact k1))
      (try simp only [Act.put, List.setIfInBounds_toArray, List.set_cons_zero, List.set_cons_succ])
      first | refine wpH_skip (by rfl) ?_ | (refine wpH_text (v := ?_) (by rfl) (fun W k1 => ?_) ?_; rotate_left; (obtain ⟨hc1, hf1⟩ := bcell k1;  go_simp; refine comes_v ?_; exact k1))
      (try simp only [Act.put, List.setIfInBounds_toArray, List.set_cons_zero, List.set_cons_succ])
      refine wpH_nil ?_
      intro W k1; obtain ⟨hc1, hf1⟩ := bcell k1
      have T4 := Lib.hid (spn_b (spn_below T2.out k1) (max hi z))
      have d2 := (spn_below T2.out k1).c3
      have d3 := (spn_below T2.out k1).fz 3
      have d4 := (spn_below T2.out k1).up
      clear hc1 hf1 k1 c3 zg E0 E1 ze p0' p1' zp3 T2
      go_wp2_with fail
      try simp only [mx]
      go_roundg (n - (k + 1))
      case measure => have := HGK.out; omega
      case rel => exact ⟨k + 1, by omega, rfl, by go_num, Lib.hid (by rw [s1, s2]; exact T4.out)⟩
    · obtain rfl : k = n := by omega
      obtain ⟨t1, t2, t3, t4, t5, t6, t7, t8⟩ := hT.out
      have r0 := (t1.cell (p := ⟨w.heap.size + 1, 0, none⟩) zW01).trans yW01_0
      have r1 := (t1.cell (p := ⟨w.heap.size + 1, 1, none⟩) zW01).trans yW01_1
      have r2 := (t1.cell (p := ⟨w.heap.size + 1, 2, none⟩) zW01).trans yW01_2
      have r3 := (t1.cell (p := ⟨w.heap.size + 1, 3, none⟩) zW01).trans yW01_3
      have q0 := (t1.frozen (p := ⟨w.heap.size + 1, 0, none⟩) zW01).trans (fW01 0)
      have q1 := (t1.frozen (p := ⟨w.heap.size + 1, 1, none⟩) zW01).trans (fW01 1)
      have q2 := (t1.frozen (p := ⟨w.heap.size + 1, 2, none⟩) zW01).trans (fW01 2)
      have q3 := (t1.frozen (p := ⟨w.heap.size + 1, 3, none⟩) zW01).trans (fW01 3)
      have zr : w.heap.size + 1 < wo.heap.size := by have := t1.size; omega
      have BB : Below w.heap.size w wo := BW0.trans (t1.mono BW0.size)
      have zz := BB.size
      clear hT D0 D1 yW00_0 yW00_1 yW01_0 yW01_1 yW01_2 yW01_3 fW00 fW01
      go_wp2_with fail
      refine bodyPost_ret (v := .agg #[.int .i64 u, .int .i64 v, .int .i64 (loW l u v k), .int .i64 (hiW l u v k)]) (by simp [results, Try.results120, go_sem, r0, r1, r2, r3, zr]) rfl ⟨rfl, ?_⟩
      repeat (first | with_reducible assumption | with_reducible exact Below.refl _ _ | with_reducible apply Below.drew | ((with_reducible refine Below.setCell ?_ ?_ _); rotate_left; (first | exact Nat.le_refl _ | omega | (simp <;> omega))) | ((with_reducible refine Below.alloc ?_ ?_ _); rotate_left; (first | omega | (simp <;> omega))))
end Go.Proofs.Ytieimijkkjhegaa
