/- contracts: LeftByClues, on both sides; rows of numbers that grow -/
import Derived.Test.YtacabmbajadbgaaPw1
import Derived.Test.YtacabmbajadbgaaKi
import Derived.Test.YtacabmbajadbgaaNbp
import Derived.Deep.CutRange
import Derived.Deep.RegionWith
import Derived.Deep.DeepMust
namespace Go.Proofs.Ytacabmbajadbgaa
open Go.ChangeShapes Go.WideShapes Go.ChangeAt Go.RowKit Go.Joins
set_option linter.unusedVariables false
set_option linter.unusedSimpArgs false
set_option maxRecDepth 4000
/-- an operation that calls -/
theorem wpOp_call {P : Program} {ops : Array Oper} {i : Nat} {o : Oper} {a : Act} {K : Act → World → Prop} {Q : Exit → Act → World → Prop} {w : World} (f : FuncId) (args : Array Value) (hi : ops[i]? = some o) (hw : Region.wanted o (yielded ops a.tmps) = true)
    (h1 : (execOp a.eval o).run P w = .ok (.enter f args) w) (h2 : o.upon P a K Q (.ok (.enter f args) w)) : wpOp P ops Q i K a w :=
  wpOp_left hi hw (by unfold Oper.wp; rw [h1]; exact h2)
/-- a row of numbers of one's own -/
def RowN (w : World) (base : Nat) (v : Value) (m : List Int) : Prop := w.ownsRow base 3 1 v m.length (m.map (Value.int .i64))
def nthI (m : List Int) (i : Nat) : Int := (m[i]?).getD 0
theorem rowN_nil (w : World) (base : Nat) : RowN w base (.slice none 0 0) [] := World.ownsRow_nil w base _ _
theorem rowN_alloc {w : World} {base : Nat} {v : Value} {m : List Int} (h : RowN w base v m) (o : Obj) : RowN (w.alloc o) base v m := World.ownsRow.alloc h o
theorem rowN_below {w w' : World} {base B : Nat} {v : Value} {m : List Int} (h : RowN w base v m) (hb : Below B w w') (hB : w.heap.size ≤ B) : RowN w' base v m := by
  obtain ⟨h1, h2⟩ := h
  rcases h2 with h2 | ⟨g, cap, cur, hv, hg, hh, r⟩
  · exact ⟨h1, .inl h2⟩
  · have hl := World.ownsRow.lt (w := w) (base := base) (e := 3) (size := 1) (v := v) (n := m.length) (xs := m.map (Value.int .i64)) ⟨h1, .inr ⟨g, cap, cur, hv, hg, hh, r⟩⟩ g (by rw [hv]; rfl)
    exact ⟨h1, .inr ⟨g, cap, cur, hv, hg, (hb.block g (by omega)).trans hh, r⟩⟩
theorem rowN_push {w W w1 : World} {v v' : Value} {m : List Int} {x : Int} (hB : Below w.heap.size w W) (hr : RowN W w.heap.size v m)
    (ho : w1.ownsRow w.heap.size 3 1 v' (m.length + 1) (m.map (Value.int .i64) ++ [.int .i64 x])) (hg : W.grownBy w1 v.ownBlock) : RowN w1 w.heap.size v' (m ++ [x]) ∧ Below w.heap.size w w1 :=
  ⟨by unfold RowN; rw [List.map_append, List.length_append]; exact ho, hB.grown hg hB.size fun g hgk => (World.ownsRow.lt hr g hgk).1⟩
theorem rowN_rwi {w : World} {base : Nat} {v : Value} {m : List Int} (h : RowN w base v m) : ∃ A c, v = .slice A m.length c ∧ RwI w base w.heap.size A m.length (nthI m) := by
  have h0 := h
  obtain ⟨h1, h2⟩ := h
  rcases h2 with ⟨hv, hn⟩ | ⟨g, cap, cur, hv, hg, hh, hc, hm, hs, ht⟩
  · exact ⟨none, 0, by rw [hv, hn], fun hp => absurd hp (by omega)⟩
  · subst hv
    refine ⟨some ⟨g, 0, none⟩, cap, rfl, fun hp => ⟨g, 0, rfl, hg, (World.ownsRow.lt h0 g rfl).2, fun i hi => ?_⟩⟩
    rw [Nat.zero_add]
    refine ⟨(World.ownsRow.cellAt h0 i (by omega)).trans ?_, World.ownsRow.frozenAt h0 _⟩
    unfold nthI
    rw [List.getElem?_map, List.getElem?_eq_getElem hi]
    rfl
theorem retNI_rowN {w w1 w' : World} {v : Value} {m : List Int} (h : RowN w' w1.heap.size v m) (hb1 : Below w.heap.size w w1) (hb : Below w1.heap.size w1 w') : RetNI w m.length (nthI m) true (.returned (.tuple #[v, .bool true])) w' := by
  obtain ⟨A, c, rfl, h3⟩ := rowN_rwi h
  exact ⟨A, c, rfl, hb1.trans (hb.mono hb1.size), rwi_more h3 hb1.size (Nat.le_refl _)⟩
theorem retNI_same {w : World} {p : Nat} {F G : Nat → Int} {b : Bool} {e : Ending} {w' : World} (h : RetNI w p F b e w') (he : ∀ i, i < p → F i = G i) : RetNI w p G b e w' := by
  obtain ⟨A, c, h1, h2, h3⟩ := h
  exact ⟨A, c, h1, h2, rwi_same h3 he⟩
theorem int_cells {w : World} {g : Nat} {x : Value} (h1 : w.cell? ⟨g, 0, none⟩ = some x) : ∀ j u, [x][j]? = some u → w.cell? ((⟨g, 0, none⟩ : Addr).add j) = some u := by
  intro j u hj
  match j, hj with
  | 0, hj => simp at hj; subst hj; exact h1
theorem int_one (x : Int) : ∀ u ∈ [Value.int .i64 x], u.oneCell' = true := by
  intro u hu; simp at hu; subst hu; rfl
/-- how many pegs fit the first 0, 1, 2, .. clues -/
noncomputable def lfL (ns : Nat) (f : Nat → Int) (k : Nat) : List Int := (List.range k).map fun i => ((solC ns f 0 i).length : Int)
theorem lfL_len (ns : Nat) (f : Nat → Int) (k : Nat) : (lfL ns f k).length = k := by unfold lfL; simp
theorem lfL_succ (ns : Nat) (f : Nat → Int) (k : Nat) : lfL ns f (k + 1) = lfL ns f k ++ [((solC ns f 0 k).length : Int)] := by unfold lfL; rw [List.range_succ, List.map_append]; rfl
theorem lfL_nth (ns : Nat) (f : Nat → Int) (k i : Nat) (h : i < k) : nthI (lfL ns f k) i = ((solC ns f 0 i).length : Int) := by
  unfold nthI lfL
  rw [List.getElem?_map, List.getElem?_range h]
  rfl
noncomputable def lfN (s : Int) (n : Nat) (f : Nat → Int) : Nat := if puzB s n f = true then n + 1 else 0
noncomputable def lfF (s : Int) (f : Nat → Int) (i : Nat) : Int := ((solC s.toNat f 0 i).length : Int)
set_option maxHeartbeats 2000000 in
theorem implLeftByClues_any (s : Int) (bk off c n : Nat) (f : Nat → Int) (w : World) (hm : n ≤ 1048576) (hnc : n ≤ c) (hc : c ≤ 9223372036854775807) (hR : RdI w w.heap.size (some ⟨bk, off, none⟩) (n * 4) f) :
    Calls Try.prog 26 #[.agg #[.int .i64 s, .slice (some ⟨bk, off, none⟩) n c]] w (RetNI w (lfN s n f) (lfF s f) (puzB s n f)) := by
  have K := Lib.hid (fun W (hb : Below w.heap.size w W) => implIsPuzzle_any s (some ⟨bk, off, none⟩) c n f W (rdi_below hR hb (Nat.le_refl _)))
  have HB := Lib.hid (Below.alloc (Below.refl w.heap.size w) (Nat.le_refl _) (.cells #[.int .i64 s, .slice (some ⟨bk, off, none⟩) n c] 28))
  have P0 := Lib.hid (pbx_new w s (some ⟨bk, off, none⟩) n c 28)
  cases hp : puzB s n f
  · rw [show lfN s n f = 0 from by unfold lfN; rw [hp]; rfl]
    rw [hp] at K
    clear hp hR
    go_enter Try.func26, Try.ntmps26
    go_wp2_with fail
    refine (K.out _ HB.out).mono ?_; rintro e w1 ⟨rfl, hb1⟩
    go_wp2_with fail
    go_ret2
    exact retNI_nil (HB.out.trans (hb1.mono HB.out.size))
  · obtain ⟨ns, rfl⟩ := nat_of hp
    rw [show lfN (ns : Int) n f = n + 1 from by unfold lfN; rw [hp]; rfl]
    rw [hp] at K
    have h12 := puzB_t hp
    have KP := Lib.hid (fun k (hk : k ≤ n) W => part_any (ns : Int) bk off c n 0 k W (by omega) (by omega) hnc hc)
    have KS := Lib.hid (fun k (hk : k ≤ n) A' (hA : 0 < k → A' = some ⟨bk, off + 0 * 4, none⟩) W (hb : Below w.heap.size w W) => solutions_any ns A' (k - 0) (k - 0) (fun i => f (0 * 4 + i)) W (puzB_part hp hk) (rdi_part (rdi_below hR hb (Nat.le_refl _)) hA hk))
    have HG : Hid (∀ k, (solK (fun i => f (0 * 4 + i)) (k - 0) (ns + 1) ((ns + 1) * (ns + 1))).length = (solC ns f 0 k).length) := Lib.hid (fun k => rfl)
    have HF : Hid (lfF (ns : Int) f = fun k => ((solC ns f 0 k).length : Int)) := Lib.hid rfl
    have hn6 : n ≤ 6 := h12.2.2.1
    obtain ⟨i0, hi0, hz0, hz1, hz2⟩ := info_parts int_info
    have hmk := fun W => run_make (P := Try.prog) W 41 3 i0 _ Try.underlying41 hi0 hz0 .i64 .i64 ((n + 1 : Nat) : Int) ((n + 1 : Nat) : Int) (by omega) (by omega) (by rw [hz2]; omega) (by omega)
    rw [show ((n + 1 : Nat) : Int) = (n : Int) + 1 by omega] at hmk
    have hnn : IntKind.i64.wrap ((n : Int) + 1) = (n : Int) + 1 := IntWalk.i64_in _ (by omega)
    clear hp hR h12
    rw [HF.out]
    generalize hgg : (fun k => (solC ns f 0 k).length) = g at *
    have HG2 : Hid (∀ k, (solK (fun i => f (0 * 4 + i)) (k - 0) (ns + 1) ((ns + 1) * (ns + 1))).length = g k) := Lib.hid (fun k => by rw [← hgg]; exact HG.out k)
    have HF2 : Hid ((fun k => ((solC ns f 0 k).length : Int)) = fun k => (g k : Int)) := Lib.hid (by rw [← hgg])
    rw [HF2.out]
    clear hgg HG HF HF2
    go_enter Try.func26, Try.ntmps26
    go_wp2_with fail
    refine (K.out _ HB.out).mono ?_; rintro e w1 ⟨rfl, hb1⟩
    have P1 := pbx_below P0.out hb1
    have B1 := HB.out.trans (hb1.mono HB.out.size)
    have p1 := P1.c1
    have pz := P1.z
    clear hb1 P0 HB K
    go_wp2_with fail
    have hS0 := Lib.hid (seti_new w1 3 (n + 1) (fun i => (g i : Int)))
    have BM : Below w1.heap.size w1 (w1.alloc (.cells (madeCells #[.int .i64 0] ((n + 1) * 1)) 3)) := (Below.refl _ _).alloc (Nat.le_refl _) _
    have P2 := Lib.hid (pbx_below P1 BM)
    have B2 := B1.trans (BM.mono B1.size)
    have hlo := B1.size
    have hlo2 : w.heap.size < w1.heap.size := P1.z
    clear hmk P1 BM p1 pz B1
    simp only [Nat.mul_one] at hS0 P2 B2
    try simp only [Nat.mul_one]
    obtain ⟨gf, hgf⟩ : ∃ gf, gf = w1.heap.size := ⟨_, rfl⟩
    rw [← hgf] at hS0 hlo hlo2 ⊢
    clear hgf
    go_wp2_with fail
    go_loopg [16] (n + 1) (fun gg i wr => ∃ k : Nat, k ≤ n + 1 ∧ gg = n + 1 - k ∧ i = .int .i64 (k : Int) ∧ Below w.heap.size w wr ∧ Hid (Pbx wr w.heap.size (ns : Int) (some ⟨bk, off, none⟩) n c) ∧ Hid (SetI wr gf (n + 1) k (fun i => (g i : Int))))
    case atStart => exact ⟨0, Nat.zero_le _, rfl, rfl, B2, P2, hS0⟩
    case round =>
      clear B2 P2 hS0
      obtain ⟨k, hk, hgg, rfl, hB, hP, hS⟩ := hrel
      rename World => wo
      have HGK := Lib.hid hgg
      clear hgg
      by_cases hlt : k < n + 1
      · have p0 := hP.out.c0
        have p1 := hP.out.c1
        have pz := hP.out.z
        have KP1 := Lib.hid (fun W => KP.out k (by omega) W)
        have KS1 := Lib.hid (fun A' hA W hb => KS.out k (by omega) A' hA W hb)
        have HG1 := Lib.hid (HG2.out k)
        have hlt2 : (k : Int) < (n : Int) + 1 := by omega
        rw [Nat.sub_zero] at KP1 KS1 HG1
        go_wp2_with fail
        refine (KP1.out _).mono ?_; rintro e w2 ⟨⟨A', rfl, hA⟩, hb2⟩
        have B2 := hB.trans (hb2.mono hB.size)
        have HA := Lib.hid hA
        clear hA
        go_wp2_with fail
        refine (KS1.out A' HA.out _ B2).mono ?_; rintro e w3 ⟨A2, c2, rfl, q1, q2, hb3, q3⟩
        have b3 := hb2.trans (hb3.mono hb2.size)
        have B3 := hB.trans (b3.mono hB.size)
        have P3 := Lib.hid (pbx_below hP.out b3)
        have S3 := seti_below hS.out b3
        rw [HG1.out]
        clear q3 q1 q2 hb2 hb3 b3 B2 hB hP hS p0 p1 pz KP1 KS1
        obtain ⟨g1, g2, g3⟩ := S3
        obtain ⟨⟨u1, d1⟩, d3⟩ := g2 k hlt
        have S4 := Lib.hid (seti_store ⟨g1, g2, g3⟩ hlt)
        have B4 := Lib.hid (B3.setCell (p := ⟨gf, k, none⟩) (by show _ ≤ gf; omega) (.int .i64 (g k : Int)))
        have P4 : Hid (Pbx (w3.setCell ⟨gf, k, none⟩ (.int .i64 (g k : Int))) w.heap.size (ns : Int) (some ⟨bk, off, none⟩) n c) := Lib.hid (pbx_set P3.out _ (by show gf ≠ _; omega))
        clear g2 g3 P3
        go_wp2_with fail
        go_roundg (n + 1 - (k + 1))
        case measure => have := HGK.out; omega
        case rel => exact ⟨k + 1, by omega, rfl, by go_num, B4.out, P4, S4⟩
      · obtain rfl : k = n + 1 := by omega
        have R1 := Lib.hid (rwi_more (rwi_of_seti hS.out (Nat.le_refl _)) hlo (Nat.le_refl _))
        have hlt2 : ¬ ((n + 1 : Nat) : Int) < (n : Int) + 1 := by omega
        go_wp2_with fail
        go_ret2
        exact ⟨_, _, rfl, hB, R1.out⟩
set_option maxHeartbeats 4000000 in
theorem specLeftByClues_any (s : Int) (bk off c n : Nat) (f : Nat → Int) (w : World) (hm : n ≤ 1048576) (hnc : n ≤ c) (hc : c ≤ 9223372036854775807) (hR : RdI w w.heap.size (some ⟨bk, off, none⟩) (n * 4) f) :
    Calls Try.prog 25 #[.agg #[.int .i64 s, .slice (some ⟨bk, off, none⟩) n c]] w (RetNI w (lfN s n f) (lfF s f) (puzB s n f)) := by
  have K := Lib.hid (fun W (hb : Below w.heap.size w W) => pzGood_any s (some ⟨bk, off, none⟩) c n f W hm (rdi_below hR hb (Nat.le_refl _)))
  have HB := Lib.hid (Below.alloc (Below.refl w.heap.size w) (Nat.le_refl _) (.cells #[.int .i64 s, .slice (some ⟨bk, off, none⟩) n c] 28))
  have P0 := Lib.hid (pbx_new w s (some ⟨bk, off, none⟩) n c 28)
  cases hp : puzB s n f
  · rw [show lfN s n f = 0 from by unfold lfN; rw [hp]; rfl]
    rw [hp] at K
    clear hp hR
    go_enter Try.func25, Try.ntmps25
    go_wp2_with fail
    refine (K.out _ HB.out).mono ?_; rintro e w1 ⟨rfl, hb1⟩
    go_wp2_with fail
    go_ret2
    exact retNI_nil (HB.out.trans (hb1.mono HB.out.size))
  · obtain ⟨ns, rfl⟩ := nat_of hp
    rw [show lfN (ns : Int) n f = n + 1 from by unfold lfN; rw [hp]; rfl]
    rw [hp] at K
    have h12 := puzB_t hp
    have KS := Lib.hid (fun k (hk : k ≤ n) W (hb : Below w.heap.size w W) => pzAll_any ns (some ⟨bk, off, none⟩) c (k - 0) (fun i => f (0 * 4 + i)) W (puzB_part hp hk) (rdi_part (rdi_below hR hb (Nat.le_refl _)) (fun _ => by rw [Nat.zero_mul, Nat.add_zero]) hk))
    have HG : Hid (∀ k, (solK (fun i => f (0 * 4 + i)) (k - 0) (ns + 1) ((ns + 1) * (ns + 1))).length = (solC ns f 0 k).length) := Lib.hid (fun k => rfl)
    have HF : Hid (∀ v w1 W, RowN W w1.heap.size v (lfL ns f (n + 1)) → Below w.heap.size w w1 → Below w1.heap.size w1 W → RetNI w (n + 1) (lfF (ns : Int) f) true (.returned (.tuple #[v, .bool true])) W) := Lib.hid (fun v w1 W h hb1 hb => by
      have := retNI_rowN h hb1 hb
      rw [lfL_len] at this
      exact retNI_same this (fun i hi => lfL_nth ns f (n + 1) i hi))
    have HL := Lib.hid (fun k => lfL_len ns f k)
    have HS := Lib.hid (fun k => lfL_succ ns f k)
    have H0 : Hid (lfL ns f 0 = []) := Lib.hid rfl
    have hn6 : n ≤ 6 := h12.2.2.1
    obtain ⟨i0, hi0, hz0, hz1, hz2⟩ := info_parts int_info
    have HI := Lib.hid (And.intro hi0 (And.intro hz0 (And.intro hz1 hz2)))
    clear hp hR h12 hi0 hz0 hz1 hz2
    generalize lfL ns f = L at *
    generalize lfF (ns : Int) f = F at *
    go_enter Try.func25, Try.ntmps25
    go_wp2_with fail
    refine (K.out _ HB.out).mono ?_; rintro e w1 ⟨rfl, hb1⟩
    have P1 := pbx_below P0.out hb1
    have B1 := HB.out.trans (hb1.mono HB.out.size)
    clear hb1 P0 HB K
    go_wp2_with fail
    have P1 := Lib.hid P1
    go_loopg [4, 5] (n + 1) (fun gg o i wr => ∃ (k : Nat) (v : Value), v = o ∧ k ≤ n + 1 ∧ gg = n + 1 - k ∧ i = .int .i64 (k : Int) ∧ Below w1.heap.size w1 wr ∧ Hid (RowN wr w1.heap.size v (L k)))
    case atStart => exact ⟨0, _, rfl, Nat.zero_le _, rfl, rfl, Below.refl _ _, Lib.hid (by rw [H0.out]; exact rowN_nil _ _)⟩
    case round =>
      obtain ⟨k, v, rfl, hk, hgg, rfl, hB, hr⟩ := hrel
      rename World => wo
      have HGK := Lib.hid hgg
      clear hgg
      have PO := pbx_below P1.out hB
      have p0 := PO.c0
      have p1 := PO.c1
      have pz := PO.z
      clear PO
      by_cases hlt : k < n + 1
      · have KS1 := Lib.hid (fun W hb => KS.out k (by omega) W hb)
        have HG1 := Lib.hid (HG.out k)
        have hlt2 : (k : Int) ≤ (n : Int) := by omega
        have hkc : (k : Int) ≤ (c : Int) := by omega
        have hkc2 : k ≤ c := by omega
        have hm2 : (L k).length = k := HL.out k
        have HS1 := Lib.hid (HS.out k)
        rw [Nat.sub_zero] at KS1 HG1
        generalize L k = m at *
        go_upto_region 7 with fail
        refine wp_region_any (by kernel_rfl) ?_
        change wpAny _ _ _ _ _ _ _ (World.drew _)
        have BB : Below w1.heap.size w1 wo.drew := hB.drew
        have RR := Lib.hid (rowN_below hr.out (Below.refl wo.heap.size wo).drew (Nat.le_refl _))
        have q0 := p0
        have q1 := p1
        have pz' : w.heap.size < wo.drew.heap.size := pz
        generalize hWd : wo.drew = Wd at BB RR ⊢
        have q0 : Wd.cell? ⟨w.heap.size, 0, none⟩ = some (.int .i64 (ns : Int)) := by rw [← hWd]; exact p0
        have q1 : Wd.cell? ⟨w.heap.size, 1, none⟩ = some (.slice (some ⟨bk, off, none⟩) n c) := by rw [← hWd]; exact p1
        have qz : w.heap.size < Wd.heap.size := by rw [← hWd]; exact pz
        clear hWd p0 p1 pz pz' hB hr
        refine wpAny_take (i := 0) (v := v) rfl (by kernel_rfl) (by kernel_rfl) (by kernel_rfl) (fun _ _ _ h => h) (Or.inl ⟨by rfl, fun W => by first | rfl | go_simp⟩) ?_
        (try simp only [List.getElem_toArray, List.getElem_cons_zero, List.getElem_cons_succ, Act.put, List.setIfInBounds_toArray, List.set_cons_zero, List.set_cons_succ])
        refine wpAny_take (i := 1) (v := .pointer (some ⟨w.heap.size, 0, none⟩)) rfl (by kernel_rfl) (by kernel_rfl) (by kernel_rfl) (fun _ _ _ h => h) (Or.inl ⟨by rfl, fun W => by first | rfl | go_simp⟩) ?_
        (try simp only [List.getElem_toArray, List.getElem_cons_zero, List.getElem_cons_succ, Act.put, List.setIfInBounds_toArray, List.set_cons_zero, List.set_cons_succ])
        refine wpAny_take (i := 3) (v := .pointer (some ⟨w.heap.size, 1, none⟩)) rfl (by kernel_rfl) (by kernel_rfl) (by kernel_rfl) (fun _ _ _ h => h) (Or.inl ⟨by rfl, fun W => by first | rfl | go_simp⟩) ?_
        (try simp only [List.getElem_toArray, List.getElem_cons_zero, List.getElem_cons_succ, Act.put, List.setIfInBounds_toArray, List.set_cons_zero, List.set_cons_succ])
        refine wpAny_take (i := 5) (v := .int .i64 (k : Int)) rfl (by kernel_rfl) (by kernel_rfl) (by kernel_rfl) (fun _ _ _ h => h) (Or.inl ⟨by rfl, fun W => by first | rfl | go_simp⟩) ?_
        (try simp only [List.getElem_toArray, List.getElem_cons_zero, List.getElem_cons_succ, Act.put, List.setIfInBounds_toArray, List.set_cons_zero, List.set_cons_succ])
        refine wpAny_all (rs := [2, 4]) (by kernel_rfl) (by simp) (fun i hi => ?_)
        rcases (by simpa using hi : i = 2 ∨ i = 4) with rfl | rfl
        · refine wpOp_val (v := .int .i64 (ns : Int)) (w' := Wd) rfl (by rfl) (by first | rfl | go_simp) ?_
          (try simp only [List.getElem_toArray, List.getElem_cons_zero, List.getElem_cons_succ, Act.put, List.setIfInBounds_toArray, List.set_cons_zero, List.set_cons_succ])
          refine wpAny_all (rs := [4]) (by kernel_rfl) (by simp) (fun i hi => ?_)
          obtain rfl : i = 4 := by simpa using hi
          refine wpOp_val (v := .slice (some ⟨bk, off, none⟩) n c) (w' := Wd) rfl (by rfl) (by first | rfl | go_simp) ?_
          (try simp only [List.getElem_toArray, List.getElem_cons_zero, List.getElem_cons_succ, Act.put, List.setIfInBounds_toArray, List.set_cons_zero, List.set_cons_succ])
          refine wpAny_all (rs := [6]) (by kernel_rfl) (by simp) (fun i hi => ?_)
          obtain rfl : i = 6 := by simpa using hi
          refine wpOp_val (v := .slice (some ⟨bk, off, none⟩) k c) (w' := Wd) rfl (by rfl) (by first | rfl | go_simp) ?_
          (try simp only [List.getElem_toArray, List.getElem_cons_zero, List.getElem_cons_succ, Act.put, List.setIfInBounds_toArray, List.set_cons_zero, List.set_cons_succ])
          refine wpAny_all (rs := [7]) (by kernel_rfl) (by simp) (fun i hi => ?_)
          obtain rfl : i = 7 := by simpa using hi
          refine wpOp_call 66 #[.int .i64 (ns : Int), .slice (some ⟨bk, off, none⟩) k c] rfl (by rfl) (by go_simp) ?_
          refine Calls.mono (KS1.out _ (B1.trans (BB.mono B1.size))) ?_
          rintro e w2 ⟨A2, c2, rfl, q1', q2', hb2, q3⟩
          have B2 := BB.trans (hb2.mono BB.size)
          have R2 := Lib.hid (rowN_below RR.out hb2 (Nat.le_refl _))
          rw [HG1.out]
          clear q3 q1' q2' hb2
          (try simp only [List.getElem_toArray, List.getElem_cons_zero, List.getElem_cons_succ, Act.put, List.setIfInBounds_toArray, List.set_cons_zero, List.set_cons_succ])
          refine wpAny_all (rs := [8]) (by kernel_rfl) (by simp) (fun i hi => ?_)
          obtain rfl : i = 8 := by simpa using hi
          refine wpOp_val (v := .int .i64 ((solC ns f 0 k).length : Int)) (w' := w2) rfl (by rfl) (by first | rfl | go_simp) ?_
          (try simp only [List.getElem_toArray, List.getElem_cons_zero, List.getElem_cons_succ, Act.put, List.setIfInBounds_toArray, List.set_cons_zero, List.set_cons_succ])
          refine wpAny_all (rs := [9]) (by kernel_rfl) (by simp) (fun i hi => ?_)
          obtain rfl : i = 9 := by simpa using hi
          refine wpOp_val (v := .slice (some ⟨w2.heap.size, 0, none⟩) 1 1) (w' := w2.alloc (.cells #[.int .i64 ((solC ns f 0 k).length : Int)] 3)) rfl (by rfl) (by go_simp) ?_
          (try simp only [List.getElem_toArray, List.getElem_cons_zero, List.getElem_cons_succ, Act.put, List.setIfInBounds_toArray, List.set_cons_zero, List.set_cons_succ])
          have R3 := Lib.hid (rowN_alloc R2.out (.cells #[.int .i64 ((solC ns f 0 k).length : Int)] 3))
          have B3 := Below.alloc B2 B2.size (.cells #[.int .i64 ((solC ns f 0 k).length : Int)] 3)
          have c0 : (w2.alloc (.cells #[.int .i64 ((solC ns f 0 k).length : Int)] 3)).cell? ⟨w2.heap.size, 0, none⟩ = some (.int .i64 ((solC ns f 0 k).length : Int)) := by go_simp
          refine wpAny_all (rs := [10]) (by kernel_rfl) (by simp) (fun i hi => ?_)
          obtain rfl : i = 10 := by simpa using hi
          refine wpOp_left rfl (by rfl) (wp_append_own _ (.tmp 16) (.tmp 25) 41 rfl w1.heap.size 3 i0 (.int .i64 0) 1 8 Try.underlying41 HI.out.1 HI.out.2.1 HI.out.2.2.1 HI.out.2.2.2 rfl (by decide) v m.length (m.map (Value.int .i64)) rfl R3.out ⟨w2.heap.size, 0, none⟩ 1 1 [.int .i64 ((solC ns f 0 k).length : Int)] rfl rfl (int_cells c0) (int_one _) (by unfold maxLen; omega) (by omega) B3.size ?_)
          intro v4 w4 own4 hgr4 _
          have RC := rowN_push B3 R3.out own4 hgr4
          have R5 := Lib.hid RC.1
          have B5 := RC.2
          clear RC own4 hgr4 B3 R3 c0
          (try simp only [List.getElem_toArray, List.getElem_cons_zero, List.getElem_cons_succ, Act.put, List.setIfInBounds_toArray, List.set_cons_zero, List.set_cons_succ])
          refine wpAny_all (rs := [11]) (by kernel_rfl) (by simp) (fun i hi => ?_)
          obtain rfl : i = 11 := by simpa using hi
          refine wpOp_val (v := v4) (w' := w4) rfl (by rfl) (by first | rfl | go_simp) ?_
          (try simp only [List.getElem_toArray, List.getElem_cons_zero, List.getElem_cons_succ, Act.put, List.setIfInBounds_toArray, List.set_cons_zero, List.set_cons_succ])
          refine wpAny_done (by kernel_rfl) ?_ _
          go_wp2_with fail
          go_roundg (n + 1 - (k + 1))
          case measure => have := HGK.out; omega
          case rel => exact ⟨k + 1, v4, rfl, by omega, rfl, by go_num, B5, Lib.hid (by rw [HS1.out]; exact R5.out)⟩
        · refine wpOp_val (v := .slice (some ⟨bk, off, none⟩) n c) (w' := Wd) rfl (by rfl) (by first | rfl | go_simp) ?_
          (try simp only [List.getElem_toArray, List.getElem_cons_zero, List.getElem_cons_succ, Act.put, List.setIfInBounds_toArray, List.set_cons_zero, List.set_cons_succ])
          refine wpAny_all (rs := [2, 6]) (by kernel_rfl) (by simp) (fun i hi => ?_)
          rcases (by simpa using hi : i = 2 ∨ i = 6) with rfl | rfl
          · refine wpOp_val (v := .int .i64 (ns : Int)) (w' := Wd) rfl (by rfl) (by first | rfl | go_simp) ?_
            (try simp only [List.getElem_toArray, List.getElem_cons_zero, List.getElem_cons_succ, Act.put, List.setIfInBounds_toArray, List.set_cons_zero, List.set_cons_succ])
            refine wpAny_all (rs := [6]) (by kernel_rfl) (by simp) (fun i hi => ?_)
            obtain rfl : i = 6 := by simpa using hi
            refine wpOp_val (v := .slice (some ⟨bk, off, none⟩) k c) (w' := Wd) rfl (by rfl) (by first | rfl | go_simp) ?_
            (try simp only [List.getElem_toArray, List.getElem_cons_zero, List.getElem_cons_succ, Act.put, List.setIfInBounds_toArray, List.set_cons_zero, List.set_cons_succ])
            refine wpAny_all (rs := [7]) (by kernel_rfl) (by simp) (fun i hi => ?_)
            obtain rfl : i = 7 := by simpa using hi
            refine wpOp_call 66 #[.int .i64 (ns : Int), .slice (some ⟨bk, off, none⟩) k c] rfl (by rfl) (by go_simp) ?_
            refine Calls.mono (KS1.out _ (B1.trans (BB.mono B1.size))) ?_
            rintro e w2 ⟨A2, c2, rfl, q1', q2', hb2, q3⟩
            have B2 := BB.trans (hb2.mono BB.size)
            have R2 := Lib.hid (rowN_below RR.out hb2 (Nat.le_refl _))
            rw [HG1.out]
            clear q3 q1' q2' hb2
            (try simp only [List.getElem_toArray, List.getElem_cons_zero, List.getElem_cons_succ, Act.put, List.setIfInBounds_toArray, List.set_cons_zero, List.set_cons_succ])
            refine wpAny_all (rs := [8]) (by kernel_rfl) (by simp) (fun i hi => ?_)
            obtain rfl : i = 8 := by simpa using hi
            refine wpOp_val (v := .int .i64 ((solC ns f 0 k).length : Int)) (w' := w2) rfl (by rfl) (by first | rfl | go_simp) ?_
            (try simp only [List.getElem_toArray, List.getElem_cons_zero, List.getElem_cons_succ, Act.put, List.setIfInBounds_toArray, List.set_cons_zero, List.set_cons_succ])
            refine wpAny_all (rs := [9]) (by kernel_rfl) (by simp) (fun i hi => ?_)
            obtain rfl : i = 9 := by simpa using hi
            refine wpOp_val (v := .slice (some ⟨w2.heap.size, 0, none⟩) 1 1) (w' := w2.alloc (.cells #[.int .i64 ((solC ns f 0 k).length : Int)] 3)) rfl (by rfl) (by go_simp) ?_
            (try simp only [List.getElem_toArray, List.getElem_cons_zero, List.getElem_cons_succ, Act.put, List.setIfInBounds_toArray, List.set_cons_zero, List.set_cons_succ])
            have R3 := Lib.hid (rowN_alloc R2.out (.cells #[.int .i64 ((solC ns f 0 k).length : Int)] 3))
            have B3 := Below.alloc B2 B2.size (.cells #[.int .i64 ((solC ns f 0 k).length : Int)] 3)
            have c0 : (w2.alloc (.cells #[.int .i64 ((solC ns f 0 k).length : Int)] 3)).cell? ⟨w2.heap.size, 0, none⟩ = some (.int .i64 ((solC ns f 0 k).length : Int)) := by go_simp
            refine wpAny_all (rs := [10]) (by kernel_rfl) (by simp) (fun i hi => ?_)
            obtain rfl : i = 10 := by simpa using hi
            refine wpOp_left rfl (by rfl) (wp_append_own _ (.tmp 16) (.tmp 25) 41 rfl w1.heap.size 3 i0 (.int .i64 0) 1 8 Try.underlying41 HI.out.1 HI.out.2.1 HI.out.2.2.1 HI.out.2.2.2 rfl (by decide) v m.length (m.map (Value.int .i64)) rfl R3.out ⟨w2.heap.size, 0, none⟩ 1 1 [.int .i64 ((solC ns f 0 k).length : Int)] rfl rfl (int_cells c0) (int_one _) (by unfold maxLen; omega) (by omega) B3.size ?_)
            intro v4 w4 own4 hgr4 _
            have RC := rowN_push B3 R3.out own4 hgr4
            have R5 := Lib.hid RC.1
            have B5 := RC.2
            clear RC own4 hgr4 B3 R3 c0
            (try simp only [List.getElem_toArray, List.getElem_cons_zero, List.getElem_cons_succ, Act.put, List.setIfInBounds_toArray, List.set_cons_zero, List.set_cons_succ])
            refine wpAny_all (rs := [11]) (by kernel_rfl) (by simp) (fun i hi => ?_)
            obtain rfl : i = 11 := by simpa using hi
            refine wpOp_val (v := v4) (w' := w4) rfl (by rfl) (by first | rfl | go_simp) ?_
            (try simp only [List.getElem_toArray, List.getElem_cons_zero, List.getElem_cons_succ, Act.put, List.setIfInBounds_toArray, List.set_cons_zero, List.set_cons_succ])
            refine wpAny_done (by kernel_rfl) ?_ _
            go_wp2_with fail
            go_roundg (n + 1 - (k + 1))
            case measure => have := HGK.out; omega
            case rel => exact ⟨k + 1, v4, rfl, by omega, rfl, by go_num, B5, Lib.hid (by rw [HS1.out]; exact R5.out)⟩
          · refine wpOp_val (v := .slice (some ⟨bk, off, none⟩) k c) (w' := Wd) rfl (by rfl) (by first | rfl | go_simp) ?_
            (try simp only [List.getElem_toArray, List.getElem_cons_zero, List.getElem_cons_succ, Act.put, List.setIfInBounds_toArray, List.set_cons_zero, List.set_cons_succ])
            refine wpAny_all (rs := [2]) (by kernel_rfl) (by simp) (fun i hi => ?_)
            obtain rfl : i = 2 := by simpa using hi
            refine wpOp_val (v := .int .i64 (ns : Int)) (w' := Wd) rfl (by rfl) (by first | rfl | go_simp) ?_
            (try simp only [List.getElem_toArray, List.getElem_cons_zero, List.getElem_cons_succ, Act.put, List.setIfInBounds_toArray, List.set_cons_zero, List.set_cons_succ])
            refine wpAny_all (rs := [7]) (by kernel_rfl) (by simp) (fun i hi => ?_)
            obtain rfl : i = 7 := by simpa using hi
            refine wpOp_call 66 #[.int .i64 (ns : Int), .slice (some ⟨bk, off, none⟩) k c] rfl (by rfl) (by go_simp) ?_
            refine Calls.mono (KS1.out _ (B1.trans (BB.mono B1.size))) ?_
            rintro e w2 ⟨A2, c2, rfl, q1', q2', hb2, q3⟩
            have B2 := BB.trans (hb2.mono BB.size)
            have R2 := Lib.hid (rowN_below RR.out hb2 (Nat.le_refl _))
            rw [HG1.out]
            clear q3 q1' q2' hb2
            (try simp only [List.getElem_toArray, List.getElem_cons_zero, List.getElem_cons_succ, Act.put, List.setIfInBounds_toArray, List.set_cons_zero, List.set_cons_succ])
            refine wpAny_all (rs := [8]) (by kernel_rfl) (by simp) (fun i hi => ?_)
            obtain rfl : i = 8 := by simpa using hi
            refine wpOp_val (v := .int .i64 ((solC ns f 0 k).length : Int)) (w' := w2) rfl (by rfl) (by first | rfl | go_simp) ?_
            (try simp only [List.getElem_toArray, List.getElem_cons_zero, List.getElem_cons_succ, Act.put, List.setIfInBounds_toArray, List.set_cons_zero, List.set_cons_succ])
            refine wpAny_all (rs := [9]) (by kernel_rfl) (by simp) (fun i hi => ?_)
            obtain rfl : i = 9 := by simpa using hi
            refine wpOp_val (v := .slice (some ⟨w2.heap.size, 0, none⟩) 1 1) (w' := w2.alloc (.cells #[.int .i64 ((solC ns f 0 k).length : Int)] 3)) rfl (by rfl) (by go_simp) ?_
            (try simp only [List.getElem_toArray, List.getElem_cons_zero, List.getElem_cons_succ, Act.put, List.setIfInBounds_toArray, List.set_cons_zero, List.set_cons_succ])
            have R3 := Lib.hid (rowN_alloc R2.out (.cells #[.int .i64 ((solC ns f 0 k).length : Int)] 3))
            have B3 := Below.alloc B2 B2.size (.cells #[.int .i64 ((solC ns f 0 k).length : Int)] 3)
            have c0 : (w2.alloc (.cells #[.int .i64 ((solC ns f 0 k).length : Int)] 3)).cell? ⟨w2.heap.size, 0, none⟩ = some (.int .i64 ((solC ns f 0 k).length : Int)) := by go_simp
            refine wpAny_all (rs := [10]) (by kernel_rfl) (by simp) (fun i hi => ?_)
            obtain rfl : i = 10 := by simpa using hi
            refine wpOp_left rfl (by rfl) (wp_append_own _ (.tmp 16) (.tmp 25) 41 rfl w1.heap.size 3 i0 (.int .i64 0) 1 8 Try.underlying41 HI.out.1 HI.out.2.1 HI.out.2.2.1 HI.out.2.2.2 rfl (by decide) v m.length (m.map (Value.int .i64)) rfl R3.out ⟨w2.heap.size, 0, none⟩ 1 1 [.int .i64 ((solC ns f 0 k).length : Int)] rfl rfl (int_cells c0) (int_one _) (by unfold maxLen; omega) (by omega) B3.size ?_)
            intro v4 w4 own4 hgr4 _
            have RC := rowN_push B3 R3.out own4 hgr4
            have R5 := Lib.hid RC.1
            have B5 := RC.2
            clear RC own4 hgr4 B3 R3 c0
            (try simp only [List.getElem_toArray, List.getElem_cons_zero, List.getElem_cons_succ, Act.put, List.setIfInBounds_toArray, List.set_cons_zero, List.set_cons_succ])
            refine wpAny_all (rs := [11]) (by kernel_rfl) (by simp) (fun i hi => ?_)
            obtain rfl : i = 11 := by simpa using hi
            refine wpOp_val (v := v4) (w' := w4) rfl (by rfl) (by first | rfl | go_simp) ?_
            (try simp only [List.getElem_toArray, List.getElem_cons_zero, List.getElem_cons_succ, Act.put, List.setIfInBounds_toArray, List.set_cons_zero, List.set_cons_succ])
            refine wpAny_done (by kernel_rfl) ?_ _
            go_wp2_with fail
            go_roundg (n + 1 - (k + 1))
            case measure => have := HGK.out; omega
            case rel => exact ⟨k + 1, v4, rfl, by omega, rfl, by go_num, B5, Lib.hid (by rw [HS1.out]; exact R5.out)⟩
      · obtain rfl : k = n + 1 := by omega
        have hlt2 : ¬ ((n + 1 : Nat) : Int) ≤ (n : Int) := by omega
        go_wp2_with fail
        go_ret2
        exact HF.out _ _ _ hr.out B1 hB
end Go.Proofs.Ytacabmbajadbgaa
