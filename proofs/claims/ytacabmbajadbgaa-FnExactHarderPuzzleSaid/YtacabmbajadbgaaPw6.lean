/- contracts: slices.Concat of clues; a puzzle without a clue, the program -/
import Derived.Test.YtacabmbajadbgaaPw5
namespace Go.Proofs.Ytacabmbajadbgaa
open Go.ChangeShapes Go.WideShapes Go.ChangeAt Go.RowKit Go.Joins
set_option linter.unusedVariables false
set_option linter.unusedSimpArgs false
set_option maxRecDepth 4000
theorem own_base {w : World} {base base' : Nat} {e : TypeId} {size : Nat} {v : Value} {n : Nat} {xs : List Value} (h : w.ownsRow base e size v n xs) (hb : base' ≤ base) : w.ownsRow base' e size v n xs := by
  obtain ⟨h1, h2⟩ := h
  rcases h2 with h2 | ⟨g, cap, cur, hv, hg, r⟩
  · exact ⟨h1, .inl h2⟩
  · exact ⟨h1, .inr ⟨g, cap, cur, hv, by omega, r⟩⟩
set_option maxHeartbeats 4000000 in
theorem concatC_any (gs bk o1 o2 n1 n2 c1 c2 : Nat) (f1 f2 : Nat → Int) (w : World) (hn : n1 + n2 ≤ 6) (zs : gs < w.heap.size) (zb : bk < w.heap.size)
    (s0 : w.cell? ⟨gs, 0, none⟩ = some (.slice (some ⟨bk, o1, none⟩) n1 c1)) (s1 : w.cell? ⟨gs, 1, none⟩ = some (.slice (some ⟨bk, o2, none⟩) n2 c2))
    (H1 : ∀ i, i < n1 * 4 → w.cell? ⟨bk, o1 + i, none⟩ = some (.int .i64 (f1 i))) (H2 : ∀ i, i < n2 * 4 → w.cell? ⟨bk, o2 + i, none⟩ = some (.int .i64 (f2 i))) :
    Calls Try.prog 94 #[.slice (some ⟨gs, 0, none⟩) 2 2] w fun e w' => (∃ v, e = .returned v ∧ w'.ownsRow w.heap.size 38 4 v (n1 + n2) (fl4 f1 n1 ++ fl4 f2 n2)) ∧ Below w.heap.size w w' := by
  obtain ⟨i0, hi0, hz0, hz1, hz2⟩ := clue_parts
  have HI := Lib.hid (And.intro hi0 (And.intro hz0 (And.intro hz1 hz2)))
  have HC1 : Hid (∀ W, Below w.heap.size w W → ∀ j u, (fl4 f1 n1)[j]? = some u → W.cell? ((⟨bk, o1, none⟩ : Addr).add j) = some u) := Lib.hid (fun W hW => fl4_cells (fun i hi => (hW.cell (p := ⟨bk, o1 + i, none⟩) zb).trans (H1 i hi)))
  have HC2 : Hid (∀ W, Below w.heap.size w W → ∀ j u, (fl4 f2 n2)[j]? = some u → W.cell? ((⟨bk, o2, none⟩ : Addr).add j) = some u) := Lib.hid (fun W hW => fl4_cells (fun i hi => (hW.cell (p := ⟨bk, o2 + i, none⟩) zb).trans (H2 i hi)))
  have KG := Lib.hid (fun W => growC_any (n1 + n2) W hn)
  have e1 : IntKind.i64.wrap ((n1 : Int) + (n2 : Int)) = ((n1 + n2 : Nat) : Int) := by rw [IntWalk.i64_in _ (by omega)]; omega
  have e2 : ¬ ((n1 + n2 : Nat) : Int) < 0 := by omega
  have e3 : ¬ (n1 : Int) < 0 := by omega
  have b1 : n1 ≤ 6 := by omega
  have b2 : n2 ≤ 6 := by omega
  have HS0 := Lib.hid s0
  have HS1 := Lib.hid s1
  clear H1 H2 hi0 hz0 hz1 hz2 s0 s1
  obtain ⟨m, hm⟩ : ∃ m, m = n1 + n2 := ⟨_, rfl⟩
  rw [← hm] at e1 e2 KG hn ⊢
  have HM := Lib.hid hm
  clear hm
  go_enter Try.func94, Try.ntmps94
  go_wp2_with fail
  go_loopg [3, 11] 2 (fun gg a i wr => (gg = 2 ∧ i = .int .i64 0 ∧ a = .int .i64 0 ∨ gg = 1 ∧ i = .int .i64 1 ∧ a = .int .i64 (n1 : Int) ∨ gg = 0 ∧ i = .int .i64 2 ∧ a = .int .i64 (m : Int)) ∧ Below w.heap.size w wr)
  case atStart => exact ⟨Or.inl ⟨rfl, rfl, rfl⟩, Below.refl _ _⟩
  case round =>
    obtain ⟨hc, hB⟩ := hrel
    rename World => wo
    have x0 := ((bcell hB).1 _ _ zs).trans HS0.out
    have x1 := ((bcell hB).1 _ _ zs).trans HS1.out
    have xz := Nat.lt_of_lt_of_le zs hB.size
    rcases hc with ⟨rfl, rfl, rfl⟩ | ⟨rfl, rfl, rfl⟩ | ⟨rfl, rfl, rfl⟩
    · go_wp2_with fail
      go_roundg 1
      case measure => omega
      case rel => exact ⟨Or.inr (Or.inl ⟨rfl, rfl, rfl⟩), by repeat (first | with_reducible assumption | with_reducible exact Below.refl _ _ | with_reducible apply Below.drew | ((with_reducible refine Below.setCell ?_ ?_ _); rotate_left; (first | exact Nat.le_refl _ | omega | (simp <;> omega))) | ((with_reducible refine Below.alloc ?_ ?_ _); rotate_left; (first | omega | (simp <;> omega))))⟩
    · go_wp2_with fail
      go_roundg 0
      case measure => omega
      case rel => exact ⟨Or.inr (Or.inr ⟨rfl, rfl, rfl⟩), by repeat (first | with_reducible assumption | with_reducible exact Below.refl _ _ | with_reducible apply Below.drew | ((with_reducible refine Below.setCell ?_ ?_ _); rotate_left; (first | exact Nat.le_refl _ | omega | (simp <;> omega))) | ((with_reducible refine Below.alloc ?_ ?_ _); rotate_left; (first | omega | (simp <;> omega))))⟩
    · go_wp2_with fail
      refine (KG.out _).mono ?_; rintro e w2 ⟨⟨v0, rfl, own0⟩, hb2⟩
      have B2 := hB.trans (hb2.mono hB.size)
      have R0 : Hid (w2.ownsRow w.heap.size 38 4 v0 0 []) := Lib.hid (own_base own0 hB.size)
      clear own0 hb2 hB x0 x1 xz
      go_wp2_with fail
      go_loopg [6, 27] 2 (fun gg a i wr => ∃ (v : Value), v = a ∧ (gg = 2 ∧ i = .int .i64 0 ∧ Hid (wr.ownsRow w.heap.size 38 4 v 0 []) ∨ gg = 1 ∧ i = .int .i64 1 ∧ Hid (wr.ownsRow w.heap.size 38 4 v n1 (fl4 f1 n1)) ∨ gg = 0 ∧ i = .int .i64 2 ∧ Hid (wr.ownsRow w.heap.size 38 4 v (n1 + n2) (fl4 f1 n1 ++ fl4 f2 n2))) ∧ Below w.heap.size w wr)
      case atStart => exact ⟨_, rfl, Or.inl ⟨rfl, rfl, R0⟩, B2⟩
      case round =>
        clear R0 B2
        obtain ⟨v, rfl, hc, hB⟩ := hrel
        rename World => wi
        have x0 := ((bcell hB).1 _ _ zs).trans HS0.out
        have x1 := ((bcell hB).1 _ _ zs).trans HS1.out
        have xz := Nat.lt_of_lt_of_le zs hB.size
        have hzi := hB.size
        rcases hc with ⟨rfl, rfl, R⟩ | ⟨rfl, rfl, R⟩ | ⟨rfl, rfl, R⟩
        · go_wp2_with (at_builtin; go_loud (refine wpList_append_own _ rfl (.tmp 31) (.tmp 32) 26 rfl w.heap.size 38 i0 (.agg #[.int .i64 0, .int .i64 0, .int .i64 0, .int .i64 0]) 4 32 Try.underlying26 HI.out.1 HI.out.2.1 HI.out.2.2.1 HI.out.2.2.2 rfl (by decide) _ (0) ([]) rfl R.out ⟨bk, o1, none⟩ n1 c1 (fl4 f1 n1) rfl (fl4_len _ _) (HC1.out _ hB) (fl4_one _ _) (by unfold maxLen; omega) (by omega) hzi ?_))
          intro v1 w3 own3 hgr3 _
          have BW := hB.grown hgr3 hB.size (fun g hg => (World.ownsRow.lt R.out g hg).1)
          have R3 := Lib.hid own3
          clear own3 hgr3 R hB
          go_wp2_with fail
          go_roundg 1
          case measure => omega
          case rel => exact ⟨_, rfl, Or.inr (Or.inl ⟨rfl, rfl, R3⟩), BW⟩
        · go_wp2_with (at_builtin; go_loud (refine wpList_append_own _ rfl (.tmp 31) (.tmp 32) 26 rfl w.heap.size 38 i0 (.agg #[.int .i64 0, .int .i64 0, .int .i64 0, .int .i64 0]) 4 32 Try.underlying26 HI.out.1 HI.out.2.1 HI.out.2.2.1 HI.out.2.2.2 rfl (by decide) _ n1 (fl4 f1 n1) rfl R.out ⟨bk, o2, none⟩ n2 c2 (fl4 f2 n2) rfl (fl4_len _ _) (HC2.out _ hB) (fl4_one _ _) (by unfold maxLen; omega) (by omega) hzi ?_))
          intro v1 w3 own3 hgr3 _
          have BW := hB.grown hgr3 hB.size (fun g hg => (World.ownsRow.lt R.out g hg).1)
          have R3 := Lib.hid own3
          clear own3 hgr3 R hB
          go_wp2_with fail
          go_roundg 0
          case measure => omega
          case rel => exact ⟨_, rfl, Or.inr (Or.inr ⟨rfl, rfl, R3⟩), BW⟩
        · go_wp2_with fail
          go_ret
          exact ⟨⟨_, rfl, by have o := R.out; rw [← HM.out] at o; exact o⟩, hB⟩
theorem heap_set_ne (w : World) (a : Addr) (k : Nat) (v : Value) (h : k ≠ a.block) : (w.setCell a v).heap[k]? = w.heap[k]? := by
  unfold World.setCell
  simp [Array.getElem?_modify, Ne.symm h]
theorem rowC_base {w : World} {base base' : Nat} {v : Value} {n : Nat} {f : Nat → Int} (h : RowC w base v n f) (hb : base' ≤ base) : RowC w base' v n f := own_base h hb
theorem rowC_set {w : World} {base : Nat} {v : Value} {n : Nat} {f : Nat → Int} {a : Addr} (h : RowC w base v n f) (ha : a.block < base) (u : Value) : RowC (w.setCell a u) base v n f := by
  obtain ⟨h1, h2⟩ := h
  rcases h2 with h2 | ⟨g, cap, cur, hv, hg, hh, r⟩
  · exact ⟨h1, .inl h2⟩
  · exact ⟨h1, .inr ⟨g, cap, cur, hv, hg, (heap_set_ne w a g u (by omega)).trans hh, r⟩⟩
theorem without_boxes (w : World) (s : Int) (A : Option Addr) (n c : Nat) (T T' : TypeId) : ∃ W, W = (w.alloc (.cells #[.int .i64 s, .slice A n c] T)).alloc (.cells #[.int .i64 0, .slice none 0 0] T') ∧ Below w.heap.size w W ∧ w.heap.size + 1 < W.heap.size ∧ W.cell? ⟨w.heap.size, 0, none⟩ = some (.int .i64 s) ∧ W.cell? ⟨w.heap.size, 1, none⟩ = some (.slice A n c) ∧ W.cell? ⟨w.heap.size + 1, 0, none⟩ = some (.int .i64 0) ∧ W.cell? ⟨w.heap.size + 1, 1, none⟩ = some (.slice none 0 0) ∧ (∀ o, W.frozen? ⟨w.heap.size + 1, o, none⟩ = false) := pbx_two w s A n c T T'
/-- what a box of a puzzle holds, and that it is one's own -/
structure Pbw (W : World) (b : Nat) (u v : Value) : Prop where
  z : b < W.heap.size
  c0 : W.cell? ⟨b, 0, none⟩ = some u
  c1 : W.cell? ⟨b, 1, none⟩ = some v
  fz : ∀ o, W.frozen? ⟨b, o, none⟩ = false
theorem pbw_below {W W' : World} {b : Nat} {u v : Value} (h : Pbw W b u v) (hb : Below W.heap.size W W') : Pbw W' b u v :=
  ⟨Nat.lt_of_lt_of_le h.z hb.size, ((bcell hb).1 _ _ h.z).trans h.c0, ((bcell hb).1 _ _ h.z).trans h.c1, fun o => ((bcell hb).2 _ _ h.z).trans (h.fz o)⟩
theorem pbw_new (w : World) (u v : Value) (T : TypeId) : Pbw (w.alloc (.cells #[u, v] T)) w.heap.size u v :=
  ⟨by simp, by go_simp, by go_simp, fun o => by rw [frozen?_alloc_cells]; simp [World.frozen?]⟩
/-- a puzzle without its clue number k -/
def WoR (w : World) (s : Int) (n k : Nat) (f : Nat → Int) (e : Ending) (w' : World) : Prop := (∃ v, e = .returned (.agg #[.int .i64 s, v]) ∧ RowC w' w.heap.size v (n - 1) (woF f k)) ∧ Below w.heap.size w w'
set_option maxHeartbeats 8000000 in
theorem without_any (s : Int) (bk off c n k : Nat) (f : Nat → Int) (w : World) (hk : k < n) (hn : n ≤ 6) (hnc : n ≤ c) (hc : c ≤ 9223372036854775807) (hR : RdI w w.heap.size (some ⟨bk, off, none⟩) (n * 4) f) :
    Calls Try.prog 59 #[.agg #[.int .i64 s, .slice (some ⟨bk, off, none⟩) n c], .int .i64 (k : Int)] w (WoR w s n k f) := by
  obtain ⟨W, hW, B0, z, c0, c1, r0, r1, fr⟩ := pbx_two w s (some ⟨bk, off, none⟩) n c 28 28
  have P0 := Lib.hid (show Pbx W w.heap.size s (some ⟨bk, off, none⟩) n c from ⟨by omega, c0, c1⟩)
  have Q0 := Lib.hid (show Pbw W (w.heap.size + 1) (.int .i64 0) (.slice none 0 0) from ⟨z, r0, r1, fr⟩)
  obtain ⟨b', o', e, hb, hcell⟩ := hR (by omega)
  injection e with e
  injection e with e1 e2
  subst e1 e2
  have HC := Lib.hid hcell
  have HW := Lib.hid (wo_parts f hk)
  have KA := Lib.hid (fun W => part_some s bk off c n 0 k W (by omega) (by omega) hnc hc)
  have KB := Lib.hid (fun W => part_some s bk off c n (k + 1) n W (by omega) (by omega) hnc hc)
  have hkk : IntKind.i64.wrap ((k : Int) + 1) = ((k + 1 : Nat) : Int) := by rw [IntWalk.i64_in _ (by omega)]; omega
  have B0' := Lib.hid B0
  rw [Nat.sub_zero] at KA
  rw [show ((k + 1 : Nat) : Int) = (k : Int) + 1 by omega] at hkk KB
  clear z c0 c1 r0 r1 fr hcell B0 hR
  go_enter Try.func59, Try.ntmps59
  go_wp2_with fail
  rw [← hW]
  clear hW
  have p0 := P0.out.c0
  have p1 := P0.out.c1
  have pz := P0.out.z
  go_wp2_with fail
  refine (KA.out _).mono ?_; rintro e w2 ⟨⟨x1, rfl, hx1⟩, hb2⟩
  have HX1 := Lib.hid hx1
  have B2 := B0'.out.trans (hb2.mono B0'.out.size)
  have P2 := Lib.hid (pbx_below P0.out hb2)
  have Q2 := Lib.hid (pbw_below Q0.out hb2)
  clear hb2 P0 Q0 B0' p0 p1 pz hx1 KA
  have p0 := P2.out.c0
  have p1 := P2.out.c1
  have pz := P2.out.z
  go_wp2_with fail
  obtain ⟨W3, hW3⟩ : ∃ W3, W3 = w2.alloc (.cells #[.int .i64 s, .slice (some ⟨bk, x1, none⟩) k k] 28) := ⟨_, rfl⟩
  have b3 : Below w2.heap.size w2 W3 := by rw [hW3]; exact Below.alloc (Below.refl _ _) (Nat.le_refl _) _
  have N3 := Lib.hid (show Pbw W3 w2.heap.size (.int .i64 s) (.slice (some ⟨bk, x1, none⟩) k k) by rw [hW3]; exact pbw_new _ _ _ _)
  rw [← hW3]
  clear hW3
  have B3 := B2.trans (b3.mono B2.size)
  have P3 := Lib.hid (pbx_below P2.out b3)
  have Q3 := Lib.hid (pbw_below Q2.out b3)
  obtain ⟨g5, hg5⟩ : ∃ g, g = w2.heap.size := ⟨_, rfl⟩
  rw [← hg5] at N3 ⊢
  have hg5l : w.heap.size + 1 < g5 := by have := Q2.out.z; omega
  clear b3 P2 Q2 p0 p1 pz hg5
  refine (KB.out _).mono ?_; rintro e w4 ⟨⟨x2, rfl, hx2⟩, hb4⟩
  have HX2 := Lib.hid hx2
  have B4 := B3.trans (hb4.mono B3.size)
  have P4 := Lib.hid (pbx_below P3.out hb4)
  have Q4 := Lib.hid (pbw_below Q3.out hb4)
  have N4 := Lib.hid (pbw_below N3.out hb4)
  clear hb4 P3 Q3 N3 hx2 KB B3 B2
  go_wp2_with fail
  obtain ⟨W5, hW5⟩ : ∃ W5, W5 = w4.alloc (.cells #[.int .i64 s, .slice (some ⟨bk, x2, none⟩) (n - (k + 1)) (n - (k + 1))] 28) := ⟨_, rfl⟩
  have b5 : Below w4.heap.size w4 W5 := by rw [hW5]; exact Below.alloc (Below.refl _ _) (Nat.le_refl _) _
  have M5 := Lib.hid (show Pbw W5 w4.heap.size (.int .i64 s) (.slice (some ⟨bk, x2, none⟩) (n - (k + 1)) (n - (k + 1))) by rw [hW5]; exact pbw_new _ _ _ _)
  rw [← hW5]
  clear hW5
  have B5 := B4.trans (b5.mono B4.size)
  have P5 := Lib.hid (pbx_below P4.out b5)
  have Q5 := Lib.hid (pbw_below Q4.out b5)
  have N5 := Lib.hid (pbw_below N4.out b5)
  obtain ⟨g6, hg6⟩ : ∃ g, g = w4.heap.size := ⟨_, rfl⟩
  rw [← hg6] at M5 ⊢
  have hg6l : g5 < g6 := by have := N4.out.z; omega
  clear b5 P4 Q4 N4 hg6 B4
  have KC : Hid (∀ W1 gs, Below W5.heap.size W5 W1 → gs < W1.heap.size → W1.cell? ⟨gs, 0, none⟩ = some (.slice (some ⟨bk, x1, none⟩) k k) → W1.cell? ⟨gs, 1, none⟩ = some (.slice (some ⟨bk, x2, none⟩) (n - (k + 1)) (n - (k + 1))) → Calls Try.prog 94 #[.slice (some ⟨gs, 0, none⟩) 2 2] W1 fun e w' => (∃ v, e = .returned v ∧ RowC w' W5.heap.size v (n - 1) (woF f k)) ∧ Below W5.heap.size W5 w') := Lib.hid (fun W1 gs bB zg y0 y1 => by
    have bC := B5.trans (bB.mono B5.size)
    have hz := bC.size
    refine (concatC_any gs bk x1 x2 k (n - (k + 1)) k (n - (k + 1)) f (fun i => f ((k + 1) * 4 + i)) W1 (by omega) zg (by omega) y0 y1 (fun i hi => ?_) (fun i hi => ?_)).mono ?_
    · have e := HX1.out (by omega)
      rw [show x1 + i = off + i by omega]
      exact (bC.cell (p := ⟨bk, off + i, none⟩) hb).trans (HC.out i (by omega))
    · have e := HX2.out (by omega)
      rw [show x2 + i = off + ((k + 1) * 4 + i) by omega]
      exact (bC.cell (p := ⟨bk, off + ((k + 1) * 4 + i), none⟩) hb).trans (HC.out _ (by omega))
    · rintro e w' ⟨⟨v, rfl, own⟩, hbw⟩
      refine ⟨⟨v, rfl, ?_⟩, bB.trans (hbw.mono bB.size)⟩
      unfold RowC
      rw [HW.out, show n - 1 = k + (n - (k + 1)) by omega]
      exact own_base own bB.size)
  have a0 := P5.out.c0
  have a1 := P5.out.c1
  have az := P5.out.z
  have d1 := N5.out.c1
  have dz := N5.out.z
  have f1 := M5.out.c1
  have fz := M5.out.z
  clear HC HW HX1 HX2
  go_upto_region 3 with fail
  go_region_with (first
    | (go_at_call 94; go_loud (refine (KC.out _ _ (by first | exact (Below.alloc (Below.refl _ _) (Nat.le_refl _) _).drew | exact Below.alloc (Below.refl _ _).drew (Nat.le_refl _) _ | exact Below.alloc (Below.refl _ _) (Nat.le_refl _) _) (by first | simp | (simp [World.drew])) (by go_simp) (by go_simp)).mono ?_); rintro e wA ⟨⟨v, rfl, own⟩, kA⟩;
       obtain ⟨Av, cv, rfl, hnv, hcv, rwv⟩ := rowC_rwi own;
       clear hnv hcv rwv;
       have QA := pbw_below Q5.out kA;
       have PA := pbx_below P5.out kA;
       have r0 := QA.c0;
       have r1 := QA.c1;
       have rz := QA.z;
       have rf0 := QA.fz 0;
       have rf1 := QA.fz 1;
       have hw5 : w.heap.size + 1 < W5.heap.size := Q5.out.z;
       have pa0 := PA.c0;
       have paz := PA.z;
       have BA := B5.trans (kA.mono B5.size);
       clear QA PA))
  all_goals
    go_wp2_with fail
    refine bodyPost_ret (v := .agg #[.int .i64 s, .slice Av (n - 1) cv]) (by simp [results, Try.results59, go_sem, rz, r0, r1]) rfl ⟨⟨_, rfl, ?_⟩, ?_⟩
    · exact rowC_base (rowC_set (rowC_set own (by show w.heap.size + 1 < _; omega) _) (by show w.heap.size + 1 < _; omega) _) B5.size
    · repeat (first | with_reducible assumption | with_reducible exact Below.refl _ _ | with_reducible apply Below.drew | ((with_reducible refine Below.setCell ?_ ?_ _); rotate_left; (first | exact Nat.le_refl _ | omega | (simp <;> omega))) | ((with_reducible refine Below.alloc ?_ ?_ _); rotate_left; (first | omega | (simp <;> omega))))
end Go.Proofs.Ytacabmbajadbgaa
