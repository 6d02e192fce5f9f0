/- contracts: the program puts points in order -/
import Derived.Test.YtheddoinnakneaaBj
import Derived.Test.YtheddoinnakneaaBf0
import Derived.Test.YtheddoinnakneaaMA
import Derived.Test.YtheddoinnakneaaRows
import Derived.Deep.Draws
import Derived.Test.YtheddoinnakneaaBm0
import Derived.Test.YtheddoinnakneaaSax
import Derived.Test.YtheddoinnakneaaNbp
import Derived.Shelf.SlicesE.Clone
import Derived.Shelf.SlSortCmp.NoneTotal
namespace Go.Proofs.Ytheddoinnakneaa
open Go.ChangeShapes Go.WideShapes Go.ChangeAt Go.RowKit Go.Joins
set_option linter.unusedVariables false
set_option linter.unusedSimpArgs false
set_option maxRecDepth 4000
section
open Go.Shelf
def layClone_ren : Go.Shelf.Ren := ⟨fun | 41 => 116 | n => n, fun | 22 => 26 | 23 => 56 | 4 => 4 | n => n, fun | n => n⟩
theorem layClone : Go.Proofs.SlLaysE0.n41 Try.prog layClone_ren := {
  mixed := by kernel_rfl
  f41 := ⟨Try.f116.name, by decide, Try.func116.trans (congrArg some (by kernel_rfl))⟩
  t4 := Try.underlying4
  a4 := Try.isAgg4
  z4 := Try.sizeOf4
  v4 := Try.zeroValue4
  t22 := Try.underlying26
  a22 := Try.isAgg26
  z22 := Try.sizeOf26
  v22 := Try.zeroValue26 }
end
section
open Go.Shelf
def laySort_ren : Go.Shelf.Ren := ⟨fun | 6 => 117 | 15 => 131 | 14 => 139 | 28 => 151 | 29 => 152 | 20 => 154 | 21 => 155 | 22 => 156 | 23 => 157 | 24 => 158 | 25 => 159 | 26 => 160 | 27 => 161 | 46 => 168 | 47 => 164 | 48 => 165 | 49 => 169 | 50 => 170 | 57 => 173 | n => n, fun | 22 => 26 | 24 => 56 | 25 => 98 | 3 => 3 | 39 => 138 | 0 => 0 | 53 => 151 | 55 => 153 | 4 => 4 | 46 => 145 | 45 => 144 | 50 => 24 | 5 => 5 | 9 => 9 | 66 => 161 | 70 => 165 | 76 => 169 | 77 => 90 | n => n, fun | n => n⟩
theorem laySort : Go.Proofs.SlLaysF0.n6 Try.prog laySort_ren := {
  mixed := by kernel_rfl
  f6 := ⟨Try.f117.name, by decide, Try.func117.trans (congrArg some (by kernel_rfl))⟩
  f14 := ⟨Try.f139.name, by decide, Try.func139.trans (congrArg some (by kernel_rfl))⟩
  f15 := Try.func131.trans (congrArg some (by kernel_rfl))
  f20 := ⟨Try.f154.name, by decide, Try.func154.trans (congrArg some (by kernel_rfl))⟩
  f21 := ⟨Try.f155.name, by decide, Try.func155.trans (congrArg some (by kernel_rfl))⟩
  f22 := ⟨Try.f156.name, by decide, Try.func156.trans (congrArg some (by kernel_rfl))⟩
  f23 := ⟨Try.f157.name, by decide, Try.func157.trans (congrArg some (by kernel_rfl))⟩
  f24 := ⟨Try.f158.name, by decide, Try.func158.trans (congrArg some (by kernel_rfl))⟩
  f25 := ⟨Try.f159.name, by decide, Try.func159.trans (congrArg some (by kernel_rfl))⟩
  f26 := ⟨Try.f160.name, by decide, Try.func160.trans (congrArg some (by kernel_rfl))⟩
  f27 := ⟨Try.f161.name, by decide, Try.func161.trans (congrArg some (by kernel_rfl))⟩
  f28 := Try.func151.trans (congrArg some (by kernel_rfl))
  f29 := Try.func152.trans (congrArg some (by kernel_rfl))
  f46 := ⟨Try.f168.name, by decide, Try.func168.trans (congrArg some (by kernel_rfl))⟩
  f47 := Try.func164.trans (congrArg some (by kernel_rfl))
  f48 := Try.func165.trans (congrArg some (by kernel_rfl))
  f49 := ⟨Try.f169.name, by decide, Try.func169.trans (congrArg some (by kernel_rfl))⟩
  f50 := ⟨Try.f170.name, by decide, Try.func170.trans (congrArg some (by kernel_rfl))⟩
  f57 := ⟨Try.f173.name, by decide, Try.func173.trans (congrArg some (by kernel_rfl))⟩
  t0 := Try.underlying0
  a0 := Try.isAgg0
  z0 := Try.sizeOf0
  v0 := Try.zeroValue0
  t3 := Try.underlying3
  a3 := Try.isAgg3
  z3 := Try.sizeOf3
  v3 := Try.zeroValue3
  t4 := Try.underlying4
  a4 := Try.isAgg4
  z4 := Try.sizeOf4
  v4 := Try.zeroValue4
  t5 := Try.underlying5
  a5 := Try.isAgg5
  z5 := Try.sizeOf5
  v5 := Try.zeroValue5
  t9 := Try.underlying9
  a9 := Try.isAgg9
  z9 := Try.sizeOf9
  v9 := Try.zeroValue9
  t22 := Try.underlying26
  a22 := Try.isAgg26
  z22 := Try.sizeOf26
  v22 := Try.zeroValue26
  t25 := Try.underlying98
  a25 := Try.isAgg98
  z25 := Try.sizeOf98
  v25 := Try.zeroValue98
  t39 := Try.underlying138
  a39 := Try.isAgg138
  z39 := Try.sizeOf138
  v39 := Try.zeroValue138
  t45 := Try.underlying144
  a45 := Try.isAgg144
  z45 := Try.sizeOf144
  v45 := Try.zeroValue144
  t46 := Try.underlying145
  a46 := Try.isAgg145
  z46 := Try.sizeOf145
  v46 := Try.zeroValue145
  t50 := Try.underlying24
  a50 := Try.isAgg24
  z50 := Try.sizeOf24
  v50 := Try.zeroValue24
  t53 := Try.underlying151
  a53 := Try.isAgg151
  z53 := Try.sizeOf151
  v53 := Try.zeroValue151
  t55 := Try.underlying153
  a55 := Try.isAgg153
  z55 := Try.sizeOf153
  v55 := Try.zeroValue153
  t66 := Try.underlying161
  a66 := Try.isAgg161
  z66 := Try.sizeOf161
  v66 := Try.zeroValue161
  t70 := Try.underlying165
  a70 := Try.isAgg165
  z70 := Try.sizeOf165
  v70 := Try.zeroValue165
  t76 := Try.underlying169
  a76 := Try.isAgg169
  z76 := Try.sizeOf169
  v76 := Try.zeroValue169
  t77 := Try.underlying90
  a77 := Try.isAgg90
  z77 := Try.sizeOf90
  v77 := Try.zeroValue90 }
end
/-- draws and new blocks -/
def Gw (w W : World) : Prop := ∃ q os, W = Go.Sort.grow (w.drewN q) os
theorem Gw.refl (w : World) : Gw w w := ⟨0, #[], by rw [Go.Sort.grow_empty]; rfl⟩
theorem Gw.drew {w W : World} (h : Gw w W) : Gw w W.drew := by
  obtain ⟨q, os, rfl⟩ := h
  exact ⟨q + 1, os, rfl⟩
theorem Gw.alloc {w W : World} (h : Gw w W) (o : Obj) : Gw w (W.alloc o) := by
  obtain ⟨q, os, rfl⟩ := h
  exact ⟨q, os ++ #[o], by rw [Go.Sort.alloc_eq_grow, Go.Sort.grow_grow]⟩
theorem Gw.trans {a b c : World} (h : Gw a b) (h' : Gw b c) : Gw a c := by
  obtain ⟨q, os, rfl⟩ := h
  obtain ⟨q', os', rfl⟩ := h'
  refine ⟨q + q', os ++ os', ?_⟩
  rw [← Go.Sort.grow_grow]
  congr 1
  show Go.Sort.grow ((a.drewN q).drewN q') os = _
  rw [World.drewN_drewN]
theorem Gw.below {w W : World} (h : Gw w W) : Below w.heap.size w W := by
  obtain ⟨q, os, rfl⟩ := h
  refine ⟨rfl, rfl, rfl, ?_, fun k hk => ?_⟩
  · simp
  · unfold Go.Sort.grow
    simp only
    rw [Array.getElem?_append_left (by simpa using hk)]
    rfl
set_option maxHeartbeats 4000000 in
theorem pegCompareW_any (a1 a2 b1 b2 : Int) (w : World) :
    Calls Try.prog 118 #[.agg #[.int .i64 a1, .int .i64 a2], .agg #[.int .i64 b1, .int .i64 b2]] w fun e w' => e = .returned (.int .i64 (cmpP (a1, a2) (b1, b2))) ∧ Gw w w' := by
  have K1 := Lib.hid (fun W => compare_any a1 b1 W)
  have K2 := Lib.hid (fun W => compare_any a2 b2 W)
  have KO : Hid (∀ (g n : Nat) (W : World) (h0 : W.cell? ⟨g, 0, none⟩ = some (.int .i64 (sgI (a1 - b1)))) (h1 : W.cell? ⟨g, 1, none⟩ = some (.int .i64 (sgI (a2 - b2)))), Calls Try.prog 132 #[.slice (some ⟨g, 0, none⟩) 2 n] W fun e w' => e = .returned (.int .i64 (cmpP (a1, a2) (b1, b2))) ∧ W = w') := Lib.hid (fun g n W h0 h1 => or2_any g n (sgI (a1 - b1)) (sgI (a2 - b2)) W h0 h1)
  generalize cmpP (a1, a2) (b1, b2) = r at *
  generalize sgI (a1 - b1) = x at *
  generalize sgI (a2 - b2) = y at *
  go_enter Try.func118, Try.ntmps118
  go_wp2_with fail
  obtain ⟨Wp, hWp⟩ : ∃ Wp, Wp = ((w.alloc (.cells #[.int .i64 a1, .int .i64 a2] 56)).alloc (.cells #[.int .i64 b1, .int .i64 b2] 56)) := ⟨_, rfl⟩
  rw [← hWp]
  have yWp0_0 : Wp.cell? ⟨w.heap.size, 0, none⟩ = some (.int .i64 a1) := by rw [hWp]; go_simp
  have yWp0_1 : Wp.cell? ⟨w.heap.size, 1, none⟩ = some (.int .i64 a2) := by rw [hWp]; go_simp
  have fWp0 : ∀ o, Wp.frozen? ⟨w.heap.size, o, none⟩ = false := by intro o; rw [hWp]; (repeat rw [frozen?_alloc_cells]); simp [World.frozen?]
  have zWp0 : w.heap.size < Wp.heap.size := by rw [hWp]; simp <;> omega
  have yWp1_0 : Wp.cell? ⟨w.heap.size + 1, 0, none⟩ = some (.int .i64 b1) := by rw [hWp]; go_simp
  have yWp1_1 : Wp.cell? ⟨w.heap.size + 1, 1, none⟩ = some (.int .i64 b2) := by rw [hWp]; go_simp
  have fWp1 : ∀ o, Wp.frozen? ⟨w.heap.size + 1, o, none⟩ = false := by intro o; rw [hWp]; (repeat rw [frozen?_alloc_cells]); simp [World.frozen?]
  have zWp1 : w.heap.size + 1 < Wp.heap.size := by rw [hWp]; simp <;> omega
  have BWp : Below w.heap.size w Wp := by rw [hWp]; exact (Below.alloc (Below.alloc (Below.refl _ _) (by simp <;> omega) _) (by simp <;> omega) _)
  have eWp : Hid (Wp.heap.size = w.heap.size + 2) := Lib.hid (by rw [hWp]; simp)
  have GWp : Gw w Wp := by rw [hWp]; exact (Gw.alloc (Gw.alloc (Gw.refl _) _) _)
  clear hWp
  refine wp_region_BT 10 (fun W => Gw (Wp) W) (by kernel_rfl) (by kernel_rfl) (by repeat (first | exact Gw.refl _ | apply Gw.drew)) ?_
  simp only [List.take_succ_cons, List.take_zero, List.drop_succ_cons, List.drop_zero]
  first | refine wpH_skip (by rfl) ?_ | (refine wpH_text (v := ?_) (by rfl) (fun W k1 => ?_) ?_; rotate_left; (obtain ⟨hc1, hf1⟩ := bcell (Gw.below k1);  go_simp; refine comes_v ?_; exact k1))
  (try simp only [Act.put, List.setIfInBounds_toArray, List.set_cons_zero, List.set_cons_succ])
  first | refine wpH_skip (by rfl) ?_ | (refine wpH_text (v := ?_) (by rfl) (fun W k1 => ?_) ?_; rotate_left; (obtain ⟨hc1, hf1⟩ := bcell (Gw.below k1);  go_simp; refine comes_v ?_; exact k1))
  (try simp only [Act.put, List.setIfInBounds_toArray, List.set_cons_zero, List.set_cons_succ])
  first | refine wpH_skip (by rfl) ?_ | (refine wpH_text (v := ?_) (by rfl) (fun W k1 => ?_) ?_; rotate_left; (obtain ⟨hc1, hf1⟩ := bcell (Gw.below k1);  go_simp; refine comes_v ?_; exact k1))
  (try simp only [Act.put, List.setIfInBounds_toArray, List.set_cons_zero, List.set_cons_succ])
  first | refine wpH_skip (by rfl) ?_ | (refine wpH_text (v := ?_) (by rfl) (fun W k1 => ?_) ?_; rotate_left; (obtain ⟨hc1, hf1⟩ := bcell (Gw.below k1);  go_simp; refine comes_v ?_; exact k1))
  (try simp only [Act.put, List.setIfInBounds_toArray, List.set_cons_zero, List.set_cons_succ])
  first | refine wpH_skip (by rfl) ?_ | (refine wpH_text (v := .int .i64 x) (by rfl) (fun W k1 => ?_) ?_; (obtain ⟨hc1, hf1⟩ := bcell (Gw.below k1);  go_simp; exact comes_q ( K1.out _) k1))
  (try simp only [Act.put, List.setIfInBounds_toArray, List.set_cons_zero, List.set_cons_succ])
  first | refine wpH_skip (by rfl) ?_ | (refine wpH_text (v := ?_) (by rfl) (fun W k1 => ?_) ?_; rotate_left; (obtain ⟨hc1, hf1⟩ := bcell (Gw.below k1);  go_simp; refine comes_v ?_; exact k1))
  (try simp only [Act.put, List.setIfInBounds_toArray, List.set_cons_zero, List.set_cons_succ])
  first | refine wpH_skip (by rfl) ?_ | (refine wpH_text (v := ?_) (by rfl) (fun W k1 => ?_) ?_; rotate_left; (obtain ⟨hc1, hf1⟩ := bcell (Gw.below k1);  go_simp; refine comes_v ?_; exact k1))
  (try simp only [Act.put, List.setIfInBounds_toArray, List.set_cons_zero, List.set_cons_succ])
  first | refine wpH_skip (by rfl) ?_ | (refine wpH_text (v := ?_) (by rfl) (fun W k1 => ?_) ?_; rotate_left; (obtain ⟨hc1, hf1⟩ := bcell (Gw.below k1);  go_simp; refine comes_v ?_; exact k1))
  (try simp only [Act.put, List.setIfInBounds_toArray, List.set_cons_zero, List.set_cons_succ])
  first | refine wpH_skip (by rfl) ?_ | (refine wpH_text (v := ?_) (by rfl) (fun W k1 => ?_) ?_; rotate_left; (obtain ⟨hc1, hf1⟩ := bcell (Gw.below k1);  go_simp; refine comes_v ?_; exact k1))
  (try simp only [Act.put, List.setIfInBounds_toArray, List.set_cons_zero, List.set_cons_succ])
  first | refine wpH_skip (by rfl) ?_ | (refine wpH_text (v := .int .i64 y) (by rfl) (fun W k1 => ?_) ?_; (obtain ⟨hc1, hf1⟩ := bcell (Gw.below k1);  go_simp; exact comes_q ( K2.out _) k1))
  (try simp only [Act.put, List.setIfInBounds_toArray, List.set_cons_zero, List.set_cons_succ])
  refine wpH_nil ?_
  intro W k1; obtain ⟨hc1, hf1⟩ := bcell (Gw.below k1)
  go_wp2_with fail
  refine (KO.out W.heap.size 2 _ (by go_simp) (by go_simp)).mono ?_; rintro e w2 ⟨rfl, rfl⟩
  have BW := GWp.trans k1
  have B2 := Gw.alloc BW (.cells #[.int .i64 x, .int .i64 y] 3)
  go_wp2_with fail
  go_ret
  exact ⟨rfl, B2⟩
def encP (p : Int × Int) : List Value := [.int .i64 p.1, .int .i64 p.2]
theorem ltP {x y : Int × Int} : ltOf cmpP x y = true ↔ lxP x y := by unfold ltOf; rw [decide_eq_true_eq]; exact cmpP_lt
theorem ltPf {x y : Int × Int} : ltOf cmpP x y = false ↔ ¬ lxP x y := by rw [← ltP]; simp
theorem swoP : Go.Sort.SWO (ltOf cmpP) where
  irrefl x := by rw [ltPf]; unfold lxP; omega
  trans x y z h1 h2 := by rw [ltP] at *; unfold lxP at *; omega
  ntrans x y z h1 h2 := by rw [ltPf] at *; unfold lxP at *; omega
theorem partsP (x y : Int × Int) (h1 : ltOf cmpP x y = false) (h2 : ltOf cmpP y x = false) : x = y := by
  rw [ltPf] at *; unfold lxP at *; exact Prod.ext (by omega) (by omega)
theorem merge_srt {l : List (Int × Int)} (h : l.Nodup) : (l.mergeSort fun x y => !(ltOf cmpP) y x) = srt l := by
  refine sorted_same _ _ ?_ (srt_sorted h) (fun x => ?_)
  · have hp := List.pairwise_mergeSort (le := fun x y => !(ltOf cmpP) y x) (fun a b c h1 h2 => by
      simp only [Bool.not_eq_true'] at *
      exact swoP.ntrans c b a h2 h1) (fun a b => by
      simp only [Bool.or_eq_true, Bool.not_eq_true']
      rw [ltPf, ltPf]
      unfold lxP; omega) l
    have hn : (l.mergeSort fun x y => !(ltOf cmpP) y x).Pairwise (· ≠ ·) := by
      rw [← List.nodup_iff_pairwise_ne]
      exact (List.mergeSort_perm _ _).nodup_iff.2 h
    refine (hp.and hn).imp fun {a b} hab => ?_
    have h1 : ¬ lxP b a := by rw [← ltPf]; simpa using hab.1
    have h2 := hab.2
    unfold lxP at *
    by_cases e1 : a.1 = b.1
    · by_cases e2 : a.2 = b.2
      · exact absurd (Prod.ext e1 e2) h2
      · omega
    · omega
  · rw [srt_mem]; exact (List.mergeSort_perm _ _).mem_iff
section
open Go.Shelf Go.Sort Go.Lib
theorem flatK_size (l : List (Int × Int)) : (flatK encP 2 l.toArray).size = l.length * 2 := by rw [size_flatK]; simp
theorem flatK_at (l : List (Int × Int)) (t : Nat) (h : t < l.length * 2) : (flat l)[t]? = some ((flatK encP 2 l.toArray)[t]!) := by
  have h1 := flat_get l (t / 2) (by omega)
  rw [get_flatK _ _ _ _ (by simpa using h)]
  have ep : l.toArray[t / 2]! = pt l (t / 2) := by
    have hh : t / 2 < l.length := by omega
    unfold pt
    rw [getElem!_pos _ _ (by simpa using hh), List.getElem?_eq_getElem hh]
    simp
  rw [ep]
  rcases Nat.mod_two_eq_zero_or_one t with m | m
  · rw [m]
    have := h1.1
    rw [show t / 2 * 2 = t by omega] at this
    exact this
  · rw [m]
    have := h1.2
    rw [show t / 2 * 2 + 1 = t by omega] at this
    exact this
theorem holds_own {w : World} {base g n cap : Nat} {l : List (Int × Int)} (h : w.ownsRow base 56 2 (.slice (some ⟨g, 0, none⟩) n cap) n (flat l)) (hl : l.length = n) : HoldsK encP 2 w g 0 l.toArray := by
  intro j hj
  rw [flatK_size] at hj
  have hc := World.ownsRow.cellAt h j (by omega)
  rw [flatK_at l j hj] at hc
  rw [Nat.zero_add]
  refine ⟨hc, ?_⟩
  rcases h.2 with ⟨hv, _⟩ | ⟨g', cap', cur, hv, hg, hh, r⟩
  · simp at hv
  · simp only [Value.slice.injEq, Option.some.injEq, Addr.mk.injEq, and_true, true_and] at hv
    obtain ⟨rfl, rfl⟩ := hv
    simp [World.frozen?, hh]
theorem own_sorted {w : World} {base g n cap m : Nat} {os : Array Obj} {l l' : List (Int × Int)} (h : w.ownsRow base 56 2 (.slice (some ⟨g, 0, none⟩) n cap) n (flat l)) (hl' : l'.length = n) :
    (sortWorldK encP 2 w g 0 m l'.toArray os).ownsRow base 56 2 (.slice (some ⟨g, 0, none⟩) n cap) n (flat l') := by
  refine ⟨by rw [flat_len, hl'], .inr ?_⟩
  rcases h.2 with ⟨hv, _⟩ | ⟨g', cap', cur, hv, hg, hh, hc, hm, hs, ht⟩
  · simp at hv
  · simp only [Value.slice.injEq, Option.some.injEq, Addr.mk.injEq, and_true, true_and] at hv
    obtain ⟨rfl, rfl⟩ := hv
    have hlt : g < w.heap.size := by
      rcases Nat.lt_or_ge g w.heap.size with h | h
      · exact h
      · rw [Array.getElem?_eq_none h] at hh; simp at hh
    refine ⟨g, cap, Go.Sort.putCells id 0 (flatK encP 2 l'.toArray) cur, rfl, hg, ?_, hc, hm, by unfold Go.Sort.putCells; rw [Array.size_mapIdx]; exact hs, ?_⟩
    · unfold sortWorldK putRowK Go.Sort.putRow Go.Sort.mapBlock Go.Sort.grow
      simp only
      rw [Array.getElem?_append_left (by rw [Array.size_modify]; exact hlt), Array.getElem?_modify]
      rw [if_pos rfl]
      show Option.map _ w.heap[g]? = _
      rw [hh]
      rfl
    · apply List.ext_getElem?
      intro t
      by_cases h : t < n * 2
      · have hcs : t < cur.size := by rw [hs]; have := Nat.mul_le_mul_right 2 hc; omega
        rw [List.getElem?_take, if_pos h, flatK_at l' t (by omega)]
        unfold Go.Sort.putCells
        rw [Array.getElem?_toList, Array.getElem?_mapIdx, Array.getElem?_eq_getElem hcs]
        simp only [Option.map_some, Option.some.injEq]
        rw [if_pos ⟨Nat.zero_le _, by rw [flatK_size]; omega⟩]
        rfl
      · rw [List.getElem?_take, if_neg h, List.getElem?_eq_none (by rw [flat_len]; omega)]
theorem cmpLaysP (g m : Nat) (w : World) : CmpLays Try.prog 118 #[] encP 2 cmpP g 0 m w := by
  intro k os dk hs x y
  exact pegCompareW_any x.1 x.2 y.1 y.2 _
theorem sort_any (base g n cap : Nat) (l : List (Int × Int)) (w : World) (hl : l.length = n) (hnd : l.Nodup) (hn : n ≤ 1000000) (h : w.ownsRow base 56 2 (.slice (some ⟨g, 0, none⟩) n cap) n (flat l)) :
    Calls Try.prog 117 #[.slice (some ⟨g, 0, none⟩) n cap, .func (.func 118) #[] #[]] w fun e w' =>
      e = .returned (.tuple #[]) ∧ w'.ownsRow base 56 2 (.slice (some ⟨g, 0, none⟩) n cap) n (flat (srt l)) ∧ Below g w w' := by
  have hlt : g < w.heap.size := (World.ownsRow.lt h g rfl).2
  have hsz : l.toArray.size = n := by simpa using hl
  have hS := AnyQ.slices_SortFunc_total laySort 2 (fun _ => by kernel_rfl) (fun _ => by kernel_rfl) encP (fun _ => rfl) (fun x v hv => by simp [encP] at hv; rcases hv with rfl | rfl <;> rfl) cmpP swoP 118 #[] g 0 cap l.toArray w
    (enters_of Try.func118 (by kernel_rfl) rfl) (cmpLaysP g _ w) (holds_own h hl) hlt (by rw [hsz]; omega) partsP
  rw [hsz] at hS
  refine Calls.mono hS ?_
  rintro e w' ⟨rfl, q, os, rfl⟩
  rw [merge_srt hnd]
  refine ⟨rfl, own_sorted h (by rw [srt_len]; exact hl), ?_⟩
  refine ⟨rfl, rfl, rfl, size_sortWorldK_c _ _ _ _ _ _ _ _, fun k hk => ?_⟩
  unfold sortWorldK putRowK Go.Sort.putRow Go.Sort.mapBlock Go.Sort.grow
  simp only
  rw [Array.getElem?_append_left (by rw [Array.size_modify]; show k < w.heap.size; omega), Array.getElem?_modify, if_neg (by omega)]
  rfl
end
set_option maxHeartbeats 4000000 in
theorem clone_any (A : Option Addr) (c n : Nat) (l : List (Int × Int)) (w : World) (hln : l.length = n) (h1 : 1 ≤ n) (hn : n ≤ 1000000) (hR : Rd w w.heap.size A l) :
    Calls Try.prog 116 #[.slice A n c] w fun e w' =>
      ∃ g cap, e = .returned (.slice (some ⟨g, 0, none⟩) n cap) ∧ w'.ownsRow w.heap.size 56 2 (.slice (some ⟨g, 0, none⟩) n cap) n (flat l) ∧ Below w.heap.size w w' := by
  obtain ⟨i0, hi0, hz0, hz1, hz2⟩ := info_parts peg_info
  obtain ⟨b, off, rfl, hb, hc⟩ := hR (by omega)
  have hC := AnyE.slices_Clone layClone i0 (.agg #[.int .i64 0, .int .i64 0]) 2 16 hi0 hz0 hz1 hz2 rfl (by decide) (fun _ => by kernel_rfl) b off n c (flat l) w (by rw [flat_len, hln]) (by unfold maxLen; omega) (by omega)
    (fun j u hu => by
      have := flat_cells (w := w) (b := b) (off := off) (l := l) (fun i hi => hc i _ (pt_get hi)) j u hu
      rw [add_plain] at this
      exact this)
    (fun u hu => by
      obtain ⟨p, _, hp⟩ := List.mem_flatMap.1 hu
      simp at hp
      rcases hp with rfl | rfl <;> rfl)
  refine Calls.mono hC ?_
  rintro e w' ⟨v, rfl, ho, hnil, hb2⟩
  rcases own_val ho with ⟨rfl, _⟩ | ⟨g, cap, rfl, _⟩
  · exact absurd rfl hnil
  · exact ⟨g, cap, rfl, ho, hb2⟩
set_option maxHeartbeats 4000000 in
theorem inOrder_any (A : Option Addr) (c n : Nat) (l : List (Int × Int)) (w : World) (hln : l.length = n) (h1 : 1 ≤ n) (hn : n ≤ 1000000) (hnd : l.Nodup) (hR : Rd w w.heap.size A l) :
    Calls Try.prog 75 #[.slice A n c] w fun e w' => (∃ g cap, e = .returned (.slice (some ⟨g, 0, none⟩) n cap) ∧ w'.ownsRow w.heap.size 56 2 (.slice (some ⟨g, 0, none⟩) n cap) n (flat (srt l))) ∧ Below w.heap.size w w' := by
  have KC := Lib.hid (fun W (hb : Below w.heap.size w W) => clone_any A c n l W hln h1 hn (rd_more (rd_below hR hb (Nat.le_refl _)) hb.size))
  have KS := Lib.hid (fun base g cap W h => sort_any base g n cap l W hln hnd hn h)
  clear hR hln hnd
  go_enter Try.func75, Try.ntmps75
  go_wp2_with fail
  refine (KC.out w (Below.refl _ _)).mono ?_; rintro e w1 ⟨g, cap, rfl, ho, hb1⟩
  have hg := (World.ownsRow.lt ho g rfl).1
  have HO := Lib.hid ho
  clear ho
  go_wp2_with fail
  refine (KS.out _ _ _ _ HO.out).mono ?_; rintro e w2 ⟨rfl, ho2, hb2⟩
  have HO2 := Lib.hid ho2
  clear ho2
  go_wp2_with fail
  go_ret
  exact ⟨⟨g, cap, rfl, HO2.out⟩, hb1.trans (hb2.mono hg)⟩
end Go.Proofs.Ytheddoinnakneaa
