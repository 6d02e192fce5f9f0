/- joined: Wn3 Wn4 Wm4 Wn5 Wn6 Wn7 Wn8 Wm5 Wm6 Wn9 WnA Wm7 WnB Wq3 Z Ma Mb -/
import Derived.Test.YtheddoinnakneaaZFlatPolygon7
import Derived.Shelf.SlSortCmp.NoneTotal
import Derived.Test.YtheddoinnakneaaRows
import Derived.Lib.SliceRun
import Derived.Deep.Slices
import Derived.Deep.Fields
import Derived.LoopTactic
import Derived.BigRegion
/- rows of spans of one's own; spans put in order -/
namespace Go.Proofs.Ytheddoinnakneaa
open Go.ChangeShapes Go.WideShapes Go.ChangeAt Go.RowKit Go.Joins
set_option linter.unusedVariables false
set_option linter.unusedSimpArgs false
set_option maxRecDepth 4000
section
open Go.Shelf
def laySortSp_ren : Go.Shelf.Ren := ⟨fun | 6 => 96 | 15 => 131 | 14 => 130 | 28 => 151 | 29 => 152 | 20 => 143 | 21 => 144 | 22 => 145 | 23 => 146 | 24 => 147 | 25 => 148 | 26 => 149 | 27 => 150 | 46 => 163 | 47 => 164 | 48 => 165 | 49 => 166 | 50 => 167 | 57 => 172 | n => n, fun | 22 => 69 | 24 => 68 | 25 => 116 | 3 => 3 | 39 => 138 | 0 => 0 | 53 => 151 | 55 => 153 | 4 => 4 | 46 => 145 | 45 => 144 | 50 => 24 | 5 => 5 | 9 => 9 | 66 => 161 | 70 => 165 | 76 => 169 | 77 => 90 | n => n, fun | n => n⟩
theorem laySortSp : Go.Proofs.SlLaysF0.n6 Try.prog laySortSp_ren := {
  mixed := by kernel_rfl
  f6 := ⟨Try.f96.name, by decide, Try.func96.trans (congrArg some (by kernel_rfl))⟩
  f14 := ⟨Try.f130.name, by decide, Try.func130.trans (congrArg some (by kernel_rfl))⟩
  f15 := Try.func131.trans (congrArg some (by kernel_rfl))
  f20 := ⟨Try.f143.name, by decide, Try.func143.trans (congrArg some (by kernel_rfl))⟩
  f21 := ⟨Try.f144.name, by decide, Try.func144.trans (congrArg some (by kernel_rfl))⟩
  f22 := ⟨Try.f145.name, by decide, Try.func145.trans (congrArg some (by kernel_rfl))⟩
  f23 := ⟨Try.f146.name, by decide, Try.func146.trans (congrArg some (by kernel_rfl))⟩
  f24 := ⟨Try.f147.name, by decide, Try.func147.trans (congrArg some (by kernel_rfl))⟩
  f25 := ⟨Try.f148.name, by decide, Try.func148.trans (congrArg some (by kernel_rfl))⟩
  f26 := ⟨Try.f149.name, by decide, Try.func149.trans (congrArg some (by kernel_rfl))⟩
  f27 := ⟨Try.f150.name, by decide, Try.func150.trans (congrArg some (by kernel_rfl))⟩
  f28 := Try.func151.trans (congrArg some (by kernel_rfl))
  f29 := Try.func152.trans (congrArg some (by kernel_rfl))
  f46 := ⟨Try.f163.name, by decide, Try.func163.trans (congrArg some (by kernel_rfl))⟩
  f47 := Try.func164.trans (congrArg some (by kernel_rfl))
  f48 := Try.func165.trans (congrArg some (by kernel_rfl))
  f49 := ⟨Try.f166.name, by decide, Try.func166.trans (congrArg some (by kernel_rfl))⟩
  f50 := ⟨Try.f167.name, by decide, Try.func167.trans (congrArg some (by kernel_rfl))⟩
  f57 := ⟨Try.f172.name, by decide, Try.func172.trans (congrArg some (by kernel_rfl))⟩
  t0 := Try.underlying0
  a0 := Try.isAgg0
  z0 := Try.sizeOf0
  v0 := Try.zeroValue0
  t3 := Try.underlying3
  a3 := Try.isAgg3
  z3 := Try.sizeOf3
  v3 := Try.zeroValue3
  t4 := Try.underlying4
  a4 := Try.isAgg4
  z4 := Try.sizeOf4
  v4 := Try.zeroValue4
  t5 := Try.underlying5
  a5 := Try.isAgg5
  z5 := Try.sizeOf5
  v5 := Try.zeroValue5
  t9 := Try.underlying9
  a9 := Try.isAgg9
  z9 := Try.sizeOf9
  v9 := Try.zeroValue9
  t22 := Try.underlying69
  a22 := Try.isAgg69
  z22 := Try.sizeOf69
  v22 := Try.zeroValue69
  t25 := Try.underlying116
  a25 := Try.isAgg116
  z25 := Try.sizeOf116
  v25 := Try.zeroValue116
  t39 := Try.underlying138
  a39 := Try.isAgg138
  z39 := Try.sizeOf138
  v39 := Try.zeroValue138
  t45 := Try.underlying144
  a45 := Try.isAgg144
  z45 := Try.sizeOf144
  v45 := Try.zeroValue144
  t46 := Try.underlying145
  a46 := Try.isAgg145
  z46 := Try.sizeOf145
  v46 := Try.zeroValue145
  t50 := Try.underlying24
  a50 := Try.isAgg24
  z50 := Try.sizeOf24
  v50 := Try.zeroValue24
  t53 := Try.underlying151
  a53 := Try.isAgg151
  z53 := Try.sizeOf151
  v53 := Try.zeroValue151
  t55 := Try.underlying153
  a55 := Try.isAgg153
  z55 := Try.sizeOf153
  v55 := Try.zeroValue153
  t66 := Try.underlying161
  a66 := Try.isAgg161
  z66 := Try.sizeOf161
  v66 := Try.zeroValue161
  t70 := Try.underlying165
  a70 := Try.isAgg165
  z70 := Try.sizeOf165
  v70 := Try.zeroValue165
  t76 := Try.underlying169
  a76 := Try.isAgg169
  z76 := Try.sizeOf169
  v76 := Try.zeroValue169
  t77 := Try.underlying90
  a77 := Try.isAgg90
  z77 := Try.sizeOf90
  v77 := Try.zeroValue90 }
end
/-- a span's cells: the direction, and the least and the greatest value of a polygon in it -/
def encS (l : List (Int × Int)) (t : Int × Int) : List Value := [.int .i64 t.1, .int .i64 t.2, .int .i64 (loW l t.1 t.2 l.length), .int .i64 (hiW l t.1 t.2 l.length)]
def flS (l s : List (Int × Int)) : List Value := s.flatMap (encS l)
theorem flS_len (l s : List (Int × Int)) : (flS l s).length = s.length * 4 := by
  induction s with
  | nil => rfl
  | cons p s ih =>
    show (encS l p ++ flS l s).length = _
    rw [List.length_append, ih, List.length_cons]
    simp [encS]
    omega
theorem flS_snoc (l s : List (Int × Int)) (p : Int × Int) : flS l (s ++ [p]) = flS l s ++ encS l p := by
  unfold flS; rw [List.flatMap_append]; simp
theorem encS_one (l : List (Int × Int)) (p : Int × Int) : ∀ u ∈ encS l p, u.oneCell' = true := by
  intro u hu
  simp [encS] at hu
  rcases hu with rfl | rfl | rfl | rfl <;> rfl
theorem flS_get (l s : List (Int × Int)) : ∀ i r, i < s.length → r < 4 → (flS l s)[i * 4 + r]? = (encS l (pt s i))[r]? := by
  induction s with
  | nil => intro i r h; simp at h
  | cons p s ih =>
    intro i r hi hr
    have e : flS l (p :: s) = encS l p ++ flS l s := rfl
    rw [e]
    cases i with
    | zero =>
      rw [List.getElem?_append_left (by simp [encS]; omega)]
      rw [Nat.zero_mul, Nat.zero_add]
      rfl
    | succ i =>
      rw [List.getElem?_append_right (by simp [encS]; omega)]
      have := ih i r (by simpa using hi) hr
      rw [show (i + 1) * 4 + r - (encS l p).length = i * 4 + r by simp [encS]; omega, this]
      rfl
/-- a row of spans of one's own -/
def RowP (w : World) (base : Nat) (v : Value) (l s : List (Int × Int)) : Prop := w.ownsRow base 68 4 v s.length (flS l s)
theorem rowP_below {w w' : World} {base B : Nat} {v : Value} {l s : List (Int × Int)} (h : RowP w base v l s) (hb : Below B w w') (hB : w.heap.size ≤ B) : RowP w' base v l s := ownB h hb hB
theorem rowP_base {w : World} {base base' : Nat} {v : Value} {l s : List (Int × Int)} (h : RowP w base v l s) (hB : base' ≤ base) : RowP w base' v l s := own_base h hB
theorem rowP_nil (w : World) (base : Nat) (l : List (Int × Int)) : RowP w base (.slice none 0 0) l [] := ⟨rfl, .inl ⟨rfl, rfl⟩⟩
theorem rowP_at {w : World} {base g cap : Nat} {l s : List (Int × Int)} (h : RowP w base (.slice (some ⟨g, 0, none⟩) s.length cap) l s) {i : Nat} (hi : i < s.length) :
    w.cell? ⟨g, i * 4, none⟩ = some (.int .i64 (pt s i).1) ∧ w.cell? ⟨g, i * 4 + 1, none⟩ = some (.int .i64 (pt s i).2) ∧ w.cell? ⟨g, i * 4 + 2, none⟩ = some (.int .i64 (loW l (pt s i).1 (pt s i).2 l.length)) ∧ w.cell? ⟨g, i * 4 + 3, none⟩ = some (.int .i64 (hiW l (pt s i).1 (pt s i).2 l.length)) := by
  have hf := fun r hr => flS_get l s i r hi hr
  exact ⟨(World.ownsRow.cellAt h (i * 4 + 0) (by omega)).trans (hf 0 (by omega)), (World.ownsRow.cellAt h (i * 4 + 1) (by omega)).trans (hf 1 (by omega)), (World.ownsRow.cellAt h (i * 4 + 2) (by omega)).trans (hf 2 (by omega)), (World.ownsRow.cellAt h (i * 4 + 3) (by omega)).trans (hf 3 (by omega))⟩
theorem four_cells {w : World} {g : Nat} {x y z t : Value} (h1 : w.cell? ⟨g, 0, none⟩ = some x) (h2 : w.cell? ⟨g, 1, none⟩ = some y) (h3 : w.cell? ⟨g, 2, none⟩ = some z) (h4 : w.cell? ⟨g, 3, none⟩ = some t) : ∀ j u, [x, y, z, t][j]? = some u → w.cell? ((⟨g, 0, none⟩ : Addr).add j) = some u := by
  intro j u hj
  match j, hj with
  | 0, hj => simp at hj; subst hj; exact h1
  | 1, hj => simp at hj; subst hj; exact h2
  | 2, hj => simp at hj; subst hj; exact h3
  | 3, hj => simp at hj; subst hj; exact h4
  | n + 4, hj => simp at hj
theorem span_info : (Try.prog.info? 68).map (fun i => (i.zero, i.size, i.bytes)) = some (some (.agg #[.int .i64 0, .int .i64 0, .int .i64 0, .int .i64 0]), 4, 32) := by kernel_rfl
set_option maxHeartbeats 4000000 in
theorem dirCompareW_any (a1 a2 b1 b2 : Int) (w : World) :
    Calls Try.prog 98 #[.agg #[.int .i64 a1, .int .i64 a2], .agg #[.int .i64 b1, .int .i64 b2]] w fun e w' => e = .returned (.int .i64 (cmpP (a1, a2) (b1, b2))) ∧ Gw w w' := by
  have K1 := Lib.hid (fun W => compare_any a1 b1 W)
  have K2 := Lib.hid (fun W => compare_any a2 b2 W)
  have KO : Hid (∀ (g n : Nat) (W : World) (h0 : W.cell? ⟨g, 0, none⟩ = some (.int .i64 (sgI (a1 - b1)))) (h1 : W.cell? ⟨g, 1, none⟩ = some (.int .i64 (sgI (a2 - b2)))), Calls Try.prog 132 #[.slice (some ⟨g, 0, none⟩) 2 n] W fun e w' => e = .returned (.int .i64 (cmpP (a1, a2) (b1, b2))) ∧ W = w') := Lib.hid (fun g n W h0 h1 => or2_any g n (sgI (a1 - b1)) (sgI (a2 - b2)) W h0 h1)
  generalize cmpP (a1, a2) (b1, b2) = r at *
  generalize sgI (a1 - b1) = x at *
  generalize sgI (a2 - b2) = y at *
  go_enter Try.func98, Try.ntmps98
  go_wp2_with fail
  obtain ⟨Wp, hWp⟩ : ∃ Wp, Wp = ((w.alloc (.cells #[.int .i64 a1, .int .i64 a2] 66)).alloc (.cells #[.int .i64 b1, .int .i64 b2] 66)) := ⟨_, rfl⟩
  rw [← hWp]
  have yWp0_0 : Wp.cell? ⟨w.heap.size, 0, none⟩ = some (.int .i64 a1) := by rw [hWp]; go_simp
  have yWp0_1 : Wp.cell? ⟨w.heap.size, 1, none⟩ = some (.int .i64 a2) := by rw [hWp]; go_simp
  have fWp0 : ∀ o, Wp.frozen? ⟨w.heap.size, o, none⟩ = false := by intro o; rw [hWp]; (repeat rw [frozen?_alloc_cells]); simp [World.frozen?]
  have zWp0 : w.heap.size < Wp.heap.size := by rw [hWp]; simp <;> omega
  have yWp1_0 : Wp.cell? ⟨w.heap.size + 1, 0, none⟩ = some (.int .i64 b1) := by rw [hWp]; go_simp
  have yWp1_1 : Wp.cell? ⟨w.heap.size + 1, 1, none⟩ = some (.int .i64 b2) := by rw [hWp]; go_simp
  have fWp1 : ∀ o, Wp.frozen? ⟨w.heap.size + 1, o, none⟩ = false := by intro o; rw [hWp]; (repeat rw [frozen?_alloc_cells]); simp [World.frozen?]
  have zWp1 : w.heap.size + 1 < Wp.heap.size := by rw [hWp]; simp <;> omega
  have BWp : Below w.heap.size w Wp := by rw [hWp]; exact (Below.alloc (Below.alloc (Below.refl _ _) (by simp <;> omega) _) (by simp <;> omega) _)
  have eWp : Hid (Wp.heap.size = w.heap.size + 2) := Lib.hid (by rw [hWp]; simp)
  have GWp : Gw w Wp := by rw [hWp]; exact (Gw.alloc (Gw.alloc (Gw.refl _) _) _)
  clear hWp
  refine wp_region_BT 10 (fun W => Gw (Wp) W) (by kernel_rfl) (by kernel_rfl) (by repeat (first | exact Gw.refl _ | apply Gw.drew)) ?_
  simp only [List.take_succ_cons, List.take_zero, List.drop_succ_cons, List.drop_zero]
  first | refine wpH_skip (by rfl) ?_ | (refine wpH_text (v := ?_) (by rfl) (fun W k1 => ?_) ?_; rotate_left; (obtain ⟨hc1, hf1⟩ := bcell (Gw.below k1);  go_simp; refine comes_v ?_; exact k1))
  (try simp only [Act.put, List.setIfInBounds_toArray, List.set_cons_zero, List.set_cons_succ])
  first | refine wpH_skip (by rfl) ?_ | (refine wpH_text (v := ?_) (by rfl) (fun W k1 => ?_) ?_; rotate_left; (obtain ⟨hc1, hf1⟩ := bcell (Gw.below k1);  go_simp; refine comes_v ?_; exact k1))
  (try simp only [Act.put, List.setIfInBounds_toArray, List.set_cons_zero, List.set_cons_succ])
  first | refine wpH_skip (by rfl) ?_ | (refine wpH_text (v := ?_) (by rfl) (fun W k1 => ?_) ?_; rotate_left; (obtain ⟨hc1, hf1⟩ := bcell (Gw.below k1);  go_simp; refine comes_v ?_; exact k1))
  (try simp only [Act.put, List.setIfInBounds_toArray, List.set_cons_zero, List.set_cons_succ])
  first | refine wpH_skip (by rfl) ?_ | (refine wpH_text (v := ?_) (by rfl) (fun W k1 => ?_) ?_; rotate_left; (obtain ⟨hc1, hf1⟩ := bcell (Gw.below k1);  go_simp; refine comes_v ?_; exact k1))
  (try simp only [Act.put, List.setIfInBounds_toArray, List.set_cons_zero, List.set_cons_succ])
  first | refine wpH_skip (by rfl) ?_ | (refine wpH_text (v := .int .i64 x) (by rfl) (fun W k1 => ?_) ?_; (obtain ⟨hc1, hf1⟩ := bcell (Gw.below k1);  go_simp; exact comes_q ( K1.out _) k1))
  (try simp only [Act.put, List.setIfInBounds_toArray, List.set_cons_zero, List.set_cons_succ])
  first | refine wpH_skip (by rfl) ?_ | (refine wpH_text (v := ?_) (by rfl) (fun W k1 => ?_) ?_; rotate_left; (obtain ⟨hc1, hf1⟩ := bcell (Gw.below k1);  go_simp; refine comes_v ?_; exact k1))
  (try simp only [Act.put, List.setIfInBounds_toArray, List.set_cons_zero, List.set_cons_succ])
  first | refine wpH_skip (by rfl) ?_ | (refine wpH_text (v := ?_) (by rfl) (fun W k1 => ?_) ?_; rotate_left; (obtain ⟨hc1, hf1⟩ := bcell (Gw.below k1);  go_simp; refine comes_v ?_; exact k1))
  (try simp only [Act.put, List.setIfInBounds_toArray, List.set_cons_zero, List.set_cons_succ])
  first | refine wpH_skip (by rfl) ?_ | (refine wpH_text (v := ?_) (by rfl) (fun W k1 => ?_) ?_; rotate_left; (obtain ⟨hc1, hf1⟩ := bcell (Gw.below k1);  go_simp; refine comes_v ?_; exact k1))
  (try simp only [Act.put, List.setIfInBounds_toArray, List.set_cons_zero, List.set_cons_succ])
  first | refine wpH_skip (by rfl) ?_ | (refine wpH_text (v := ?_) (by rfl) (fun W k1 => ?_) ?_; rotate_left; (obtain ⟨hc1, hf1⟩ := bcell (Gw.below k1);  go_simp; refine comes_v ?_; exact k1))
  (try simp only [Act.put, List.setIfInBounds_toArray, List.set_cons_zero, List.set_cons_succ])
  first | refine wpH_skip (by rfl) ?_ | (refine wpH_text (v := .int .i64 y) (by rfl) (fun W k1 => ?_) ?_; (obtain ⟨hc1, hf1⟩ := bcell (Gw.below k1);  go_simp; exact comes_q ( K2.out _) k1))
  (try simp only [Act.put, List.setIfInBounds_toArray, List.set_cons_zero, List.set_cons_succ])
  refine wpH_nil ?_
  intro W k1; obtain ⟨hc1, hf1⟩ := bcell (Gw.below k1)
  go_wp2_with fail
  refine (KO.out W.heap.size 2 _ (by go_simp) (by go_simp)).mono ?_; rintro e w2 ⟨rfl, rfl⟩
  have BW := GWp.trans k1
  have B2 := Gw.alloc BW (.cells #[.int .i64 x, .int .i64 y] 3)
  go_wp2_with fail
  go_ret
  exact ⟨rfl, B2⟩
theorem spanCompareW_any (a1 a2 a3 a4 b1 b2 b3 b4 : Int) (w : World) :
    Calls Try.prog 97 #[.agg #[.int .i64 a1, .int .i64 a2, .int .i64 a3, .int .i64 a4], .agg #[.int .i64 b1, .int .i64 b2, .int .i64 b3, .int .i64 b4]] w fun e w' => e = .returned (.int .i64 (cmpP (a1, a2) (b1, b2))) ∧ Gw w w' := by
  have K1 := Lib.hid (fun W => dirCompareW_any a1 a2 b1 b2 W)
  generalize cmpP (a1, a2) (b1, b2) = r at *
  go_enter Try.func97, Try.ntmps97
  go_wp2_with fail
  obtain ⟨Wp, hWp⟩ : ∃ Wp, Wp = ((w.alloc (.cells #[.int .i64 a1, .int .i64 a2, .int .i64 a3, .int .i64 a4] 68)).alloc (.cells #[.int .i64 b1, .int .i64 b2, .int .i64 b3, .int .i64 b4] 68)) := ⟨_, rfl⟩
  rw [← hWp]
  have yWp0_0 : Wp.cell? ⟨w.heap.size, 0, none⟩ = some (.int .i64 a1) := by rw [hWp]; go_simp
  have yWp0_1 : Wp.cell? ⟨w.heap.size, 1, none⟩ = some (.int .i64 a2) := by rw [hWp]; go_simp
  have yWp0_2 : Wp.cell? ⟨w.heap.size, 2, none⟩ = some (.int .i64 a3) := by rw [hWp]; go_simp
  have yWp0_3 : Wp.cell? ⟨w.heap.size, 3, none⟩ = some (.int .i64 a4) := by rw [hWp]; go_simp
  have fWp0 : ∀ o, Wp.frozen? ⟨w.heap.size, o, none⟩ = false := by intro o; rw [hWp]; (repeat rw [frozen?_alloc_cells]); simp [World.frozen?]
  have zWp0 : w.heap.size < Wp.heap.size := by rw [hWp]; simp <;> omega
  have yWp1_0 : Wp.cell? ⟨w.heap.size + 1, 0, none⟩ = some (.int .i64 b1) := by rw [hWp]; go_simp
  have yWp1_1 : Wp.cell? ⟨w.heap.size + 1, 1, none⟩ = some (.int .i64 b2) := by rw [hWp]; go_simp
  have yWp1_2 : Wp.cell? ⟨w.heap.size + 1, 2, none⟩ = some (.int .i64 b3) := by rw [hWp]; go_simp
  have yWp1_3 : Wp.cell? ⟨w.heap.size + 1, 3, none⟩ = some (.int .i64 b4) := by rw [hWp]; go_simp
  have fWp1 : ∀ o, Wp.frozen? ⟨w.heap.size + 1, o, none⟩ = false := by intro o; rw [hWp]; (repeat rw [frozen?_alloc_cells]); simp [World.frozen?]
  have zWp1 : w.heap.size + 1 < Wp.heap.size := by rw [hWp]; simp <;> omega
  have BWp : Below w.heap.size w Wp := by rw [hWp]; exact (Below.alloc (Below.alloc (Below.refl _ _) (by simp <;> omega) _) (by simp <;> omega) _)
  have eWp : Hid (Wp.heap.size = w.heap.size + 2) := Lib.hid (by rw [hWp]; simp)
  have GWp : Gw w Wp := by rw [hWp]; exact (Gw.alloc (Gw.alloc (Gw.refl _) _) _)
  clear hWp
  refine (K1.out _).mono ?_; rintro e w2 ⟨rfl, k1⟩
  have BW := GWp.trans k1
  go_wp2_with fail
  go_ret
  exact ⟨rfl, BW⟩
section
open Go.Shelf Go.Sort Go.Lib
theorem flatS_size (l s : List (Int × Int)) : (flatK (encS l) 4 s.toArray).size = s.length * 4 := by rw [size_flatK]; simp
theorem flS_at (l s : List (Int × Int)) (t : Nat) (h : t < s.length * 4) : (flS l s)[t]? = some ((flatK (encS l) 4 s.toArray)[t]!) := by
  have h1 := flS_get l s (t / 4) (t % 4) (by omega) (by omega)
  rw [get_flatK _ _ _ _ (by simpa using h)]
  have ep : s.toArray[t / 4]! = pt s (t / 4) := by
    have hh : t / 4 < s.length := by omega
    unfold pt
    rw [getElem!_pos _ _ (by simpa using hh), List.getElem?_eq_getElem hh]
    simp
  rw [ep]
  rw [show t / 4 * 4 + t % 4 = t by omega] at h1
  rw [h1]
  have : t % 4 = 0 ∨ t % 4 = 1 ∨ t % 4 = 2 ∨ t % 4 = 3 := by omega
  rcases this with m | m | m | m <;> rw [m] <;> rfl
theorem holds_ownS {w : World} {base g cap : Nat} {l s : List (Int × Int)} (h : RowP w base (.slice (some ⟨g, 0, none⟩) s.length cap) l s) : HoldsK (encS l) 4 w g 0 s.toArray := by
  intro j hj
  rw [flatS_size] at hj
  have hc := World.ownsRow.cellAt h j (by omega)
  rw [flS_at l s j hj] at hc
  rw [Nat.zero_add]
  refine ⟨hc, ?_⟩
  rcases h.2 with ⟨hv, _⟩ | ⟨g', cap', cur, hv, hg, hh, r⟩
  · simp at hv
  · simp only [Value.slice.injEq, Option.some.injEq, Addr.mk.injEq, and_true, true_and] at hv
    obtain ⟨rfl, rfl⟩ := hv
    simp [World.frozen?, hh]
theorem own_sortedS {w : World} {base g cap m : Nat} {os : Array Obj} {l s s' : List (Int × Int)} (h : RowP w base (.slice (some ⟨g, 0, none⟩) s.length cap) l s) (hl' : s'.length = s.length) :
    RowP (sortWorldK (encS l) 4 w g 0 m s'.toArray os) base (.slice (some ⟨g, 0, none⟩) s.length cap) l s' := by
  unfold RowP
  rw [hl']
  refine ⟨by rw [flS_len, hl'], .inr ?_⟩
  rcases h.2 with ⟨hv, _⟩ | ⟨g', cap', cur, hv, hg, hh, hc, hm, hs, ht⟩
  · simp at hv
  · simp only [Value.slice.injEq, Option.some.injEq, Addr.mk.injEq, and_true, true_and] at hv
    obtain ⟨rfl, rfl⟩ := hv
    have hlt : g < w.heap.size := by
      rcases Nat.lt_or_ge g w.heap.size with h | h
      · exact h
      · rw [Array.getElem?_eq_none h] at hh; simp at hh
    refine ⟨g, cap, Go.Sort.putCells id 0 (flatK (encS l) 4 s'.toArray) cur, rfl, hg, ?_, hc, hm, by unfold Go.Sort.putCells; rw [Array.size_mapIdx]; exact hs, ?_⟩
    · unfold sortWorldK putRowK Go.Sort.putRow Go.Sort.mapBlock Go.Sort.grow
      simp only
      rw [Array.getElem?_append_left (by rw [Array.size_modify]; exact hlt), Array.getElem?_modify]
      rw [if_pos rfl]
      show Option.map _ w.heap[g]? = _
      rw [hh]
      rfl
    · apply List.ext_getElem?
      intro t
      by_cases h : t < s.length * 4
      · have hcs : t < cur.size := by rw [hs]; have := Nat.mul_le_mul_right 4 hc; omega
        rw [List.getElem?_take, if_pos h, flS_at l s' t (by omega)]
        unfold Go.Sort.putCells
        rw [Array.getElem?_toList, Array.getElem?_mapIdx, Array.getElem?_eq_getElem hcs]
        simp only [Option.map_some, Option.some.injEq]
        rw [if_pos ⟨Nat.zero_le _, by rw [flatS_size]; omega⟩]
        rfl
      · rw [List.getElem?_take, if_neg h, List.getElem?_eq_none (by rw [flS_len]; omega)]
theorem cmpLaysS (l : List (Int × Int)) (g m : Nat) (w : World) : CmpLays Try.prog 97 #[] (encS l) 4 cmpP g 0 m w := by
  intro k os dk hs x y
  exact spanCompareW_any x.1 x.2 _ _ y.1 y.2 _ _ _
theorem sortS_any (base g cap : Nat) (l s : List (Int × Int)) (w : World) (hnd : s.Nodup) (hn : s.length ≤ 1000000) (h : RowP w base (.slice (some ⟨g, 0, none⟩) s.length cap) l s) :
    Calls Try.prog 96 #[.slice (some ⟨g, 0, none⟩) s.length cap, .func (.func 97) #[] #[]] w fun e w' =>
      e = .returned (.tuple #[]) ∧ RowP w' base (.slice (some ⟨g, 0, none⟩) s.length cap) l (srt s) ∧ Below g w w' := by
  have hlt : g < w.heap.size := (World.ownsRow.lt h g rfl).2
  have hsz : s.toArray.size = s.length := by simp
  have hS := AnyQ.slices_SortFunc_total laySortSp 4 (fun _ => by kernel_rfl) (fun _ => by kernel_rfl) (encS l) (fun _ => rfl) (fun x => encS_one l x) cmpP swoP 97 #[] g 0 cap s.toArray w
    (enters_of Try.func97 (by kernel_rfl) rfl) (cmpLaysS l g _ w) (holds_ownS h) hlt (by rw [hsz]; omega) partsP
  rw [hsz] at hS
  refine Calls.mono hS ?_
  rintro e w' ⟨rfl, q, os, rfl⟩
  rw [merge_srt hnd]
  refine ⟨rfl, own_sortedS h (srt_len _), ?_⟩
  refine ⟨rfl, rfl, rfl, size_sortWorldK_c _ _ _ _ _ _ _ _, fun k hk => ?_⟩
  unfold sortWorldK putRowK Go.Sort.putRow Go.Sort.mapBlock Go.Sort.grow
  simp only
  rw [Array.getElem?_append_left (by rw [Array.size_modify]; show k < w.heap.size; omega), Array.getElem?_modify, if_neg (by omega)]
  rfl
theorem sortV_any (base : Nat) (v : Value) (l s : List (Int × Int)) (w : World) (hnd : s.Nodup) (hn : s.length ≤ 1000000) (h : RowP w base v l s) (hbw : base ≤ w.heap.size) :
    Calls Try.prog 96 #[v, .func (.func 97) #[] #[]] w fun e w' =>
      e = .returned (.tuple #[]) ∧ RowP w' base v l (srt s) ∧ Below base w w' := by
  rcases own_val h with ⟨rfl, h0⟩ | ⟨g, cap, rfl, _, _, hg, _⟩
  · have hs : s = [] := List.length_eq_zero_iff.1 h0
    subst hs
    refine (AnyF.slices_SortFunc_none laySortSp none 0 _ w).mono ?_
    rintro e w' ⟨rfl, rfl⟩
    exact ⟨rfl, h, (Below.refl _ _).mono hbw⟩
  · refine (sortS_any base g cap l s w hnd hn h).mono ?_
    rintro e w' ⟨rfl, h1, h2⟩
    exact ⟨rfl, h1, h2.mono hg⟩
end
end Go.Proofs.Ytheddoinnakneaa
/- contract: the spans of all told directions of a width that is not too great, in order, the program -/
namespace Go.Proofs.Ytheddoinnakneaa
open Go.ChangeShapes Go.WideShapes Go.ChangeAt Go.RowKit Go.Joins
set_option linter.unusedVariables false
set_option linter.unusedSimpArgs false
set_option maxRecDepth 4000
theorem vx_bd {l : List (Int × Int)} (hg : Good l) (i : Nat) : (-40 ≤ (vx l i).1 ∧ (vx l i).1 ≤ 40) ∧ (-40 ≤ (vx l i).2 ∧ (vx l i).2 ≤ 40) := by
  have := hg.pegs (i % l.length) (Nat.mod_lt _ (by have := hg.few; omega))
  rw [vx_per] at this
  unfold isPg isPegB at this
  simp only [Bool.and_eq_true, decide_eq_true_eq] at this
  omega
/-- the program's two lines from the first corner -/
def pP (l : List (Int × Int)) : Int × Int := subP (vx l (l.length - 1)) (vx l 0)
def pQ (l : List (Int × Int)) : Int × Int := subP (vx l 1) (vx l 0)
def sX (l : List (Int × Int)) (m n : Int) : Int := (soX (pP l) (pQ l) m n).tdiv (detP (pP l) (pQ l))
def sY (l : List (Int × Int)) (m n : Int) : Int := (soY (pP l) (pQ l) m n).tdiv (detP (pP l) (pQ l))
def sB (l : List (Int × Int)) (m n : Int) : Bool := decide ((soX (pP l) (pQ l) m n).tmod (detP (pP l) (pQ l)) = 0) && decide ((soY (pP l) (pQ l) m n).tmod (detP (pP l) (pQ l)) = 0)
theorem s_bd {l : List (Int × Int)} (hg : Good l) {m n : Int} (hm : -80 ≤ m ∧ m ≤ 80) (hn : -80 ≤ n ∧ n ≤ 80) : (-12800 ≤ sX l m n ∧ sX l m n ≤ 12800) ∧ (-12800 ≤ sY l m n ∧ sY l m n ≤ 12800) := by
  have b1 := vx_bd hg 0
  have b2 := vx_bd hg 1
  have b3 := vx_bd hg (l.length - 1)
  have h := so_bd (p := pP l) (q := pQ l) (m := m) (n := n) (by unfold pP subP; simp only; omega) (by unfold pQ subP; simp only; omega) hm hn
  obtain ⟨⟨⟨h1, h2⟩, h3, h4⟩, ⟨h5, h6⟩, h7, h8⟩ := h
  exact ⟨tdiv_bd (by unfold soX; omega) (by unfold soX; omega), tdiv_bd (by unfold soY; omega) (by unfold soY; omega)⟩
theorem sO_f {W : Int → Int → Int} {most : Int} {l : List (Int × Int)} {m n : Int} (h : sB l m n = false) : dirO W most (pP l) (pQ l) m n = [] := by
  apply dirO_none
  unfold sB at h
  simp only [Bool.and_eq_false_iff, decide_eq_false_iff_not] at h
  exact h
theorem sO_t {W : Int → Int → Int} {most : Int} {l : List (Int × Int)} {m n : Int} (h : sB l m n = true) : dirO W most (pP l) (pQ l) m n = if (toldB (sX l m n) (sY l m n) && decide (W (sX l m n) (sY l m n) ≤ most)) = true then [(sX l m n, sY l m n)] else [] := by
  unfold sB at h
  simp only [Bool.and_eq_true, decide_eq_true_eq] at h
  exact dirO_some h.1 h.2 rfl rfl
theorem solve_any (l : List (Int × Int)) (m n : Int) (w : World) (hg : Good l) (hm : -80 ≤ m ∧ m ≤ 80) (hn : -80 ≤ n ∧ n ≤ 80) :
    Calls Try.prog 94 #[.agg #[.int .i64 (vx l 0).1, .int .i64 (vx l 0).2, .int .i64 (vx l (l.length - 1)).1, .int .i64 (vx l (l.length - 1)).2, .int .i64 (vx l 1).1, .int .i64 (vx l 1).2], .int .i64 m, .int .i64 n] w fun e w' => e = .returned (.tuple #[.agg #[.int .i64 (sX l m n), .int .i64 (sY l m n)], .bool (sB l m n)]) ∧ Below w.heap.size w w' := by
  have b1 := vx_bd hg 0
  have b2 := vx_bd hg 1
  have b3 := vx_bd hg (l.length - 1)
  have hd := (base_prog hg).d
  have e : twI (vx l 0).1 (vx l 0).2 (vx l (l.length - 1)).1 (vx l (l.length - 1)).2 (vx l 1).1 (vx l 1).2 = detP (pP l) (pQ l) := rfl
  have m1 := mul_bd (x := (pP l).1) (y := (pQ l).2) (m := 80) (n := 80) (by unfold pP subP; simp only; omega) (by unfold pP subP; simp only; omega) (by unfold pQ subP; simp only; omega) (by unfold pQ subP; simp only; omega)
  have m2 := mul_bd (x := (pP l).2) (y := (pQ l).1) (m := 80) (n := 80) (by unfold pP subP; simp only; omega) (by unfold pP subP; simp only; omega) (by unfold pQ subP; simp only; omega) (by unfold pQ subP; simp only; omega)
  have K := directionWith_any (vx l 0).1 (vx l 0).2 (vx l (l.length - 1)).1 (vx l (l.length - 1)).2 (vx l 1).1 (vx l 1).2 m n w ⟨by omega, by omega, by omega, by omega⟩ ⟨by omega, by omega, by omega, by omega⟩ ⟨by omega, by omega, by omega, by omega⟩ hm hn
    ⟨hd, by rw [e]; unfold detP; omega, by rw [e]; unfold detP; omega⟩
  refine K.mono ?_
  rintro e' w' ⟨⟨x, y, ⟨hx, hy⟩, rfl⟩, hb⟩
  have ex : x = soX (pP l) (pQ l) m n := by rw [hx]; unfold soX pP pQ subP; simp only; grind
  have ey : y = soY (pP l) (pQ l) m n := by rw [hy]; unfold soY pP pQ subP; simp only; grind
  refine ⟨?_, hb⟩
  rw [e, ex, ey]
  rfl
set_option maxRecDepth 100000 in
set_option maxHeartbeats 16000000 in
theorem spansUpTo_any (A : Option Addr) (c : Nat) (l : List (Int × Int)) (most : Nat) (w : World) (hmo : most ≤ 80) (hg : Good l) (hR : Rd w w.heap.size A l) :
    Calls Try.prog 60 #[.slice A l.length c, .int .i64 (most : Int)] w fun e w' => (∃ v, e = .returned v ∧ RowP w' w.heap.size v l (dirD (wdL l) (pP l) (pQ l) most)) ∧ Below w.heap.size w w' := by
  have hf := hg.few
  have HB := base_prog hg
  have hds : detP (pP l) (pQ l) ≠ 0 := HB.d
  have KC := Lib.hid (cornersAroundW_any A c l w (by omega) (by omega) hR)
  have KS := Lib.hid (fun m n W (hm : -80 ≤ m ∧ m ≤ 80) (hn : -80 ≤ n ∧ n ≤ 80) => solve_any l m n W hg hm hn)
  have KT := Lib.hid (fun u v W (h1 : -12800 ≤ u ∧ u ≤ 12800) (h2 : -12800 ≤ v ∧ v ≤ 12800) => isTold_any u v W (by omega) (by omega) (by omega) (by omega))
  have KU := Lib.hid (fun u v W (h1 : -12800 ≤ u ∧ u ≤ 12800) (h2 : -12800 ≤ v ∧ v ≤ 12800) (hb : Below w.heap.size w W) => spanOf_any A c l u v W (by omega) (by omega) (by omega) (by omega) hg (rd_more (rd_below hR hb (Nat.le_refl _)) hb.size))
  have KW := Lib.hid (fun u v W (h1 : -12800 ≤ u ∧ u ≤ 12800) (h2 : -12800 ≤ v ∧ v ≤ 12800) => width_any u v (loW l u v l.length) (hiW l u v l.length) W (lohi_bd (by omega) (by omega) (by omega) (by omega) hg.pegs (by omega) l.length (Nat.le_refl _)).1.1 (lohi_bd (by omega) (by omega) (by omega) (by omega) hg.pegs (by omega) l.length (Nat.le_refl _)).1.2 (lohi_bd (by omega) (by omega) (by omega) (by omega) hg.pegs (by omega) l.length (Nat.le_refl _)).2.1.1 (lohi_bd (by omega) (by omega) (by omega) (by omega) hg.pegs (by omega) l.length (Nat.le_refl _)).2.1.2)
  have HBD := Lib.hid (fun m n (hm : -80 ≤ m ∧ m ≤ 80) (hn : -80 ≤ n ∧ n ≤ 80) => s_bd hg hm hn)
  have HOF := Lib.hid (fun m n h => sO_f (W := wdL l) (most := (most : Int)) (l := l) (m := m) (n := n) h)
  have HOT := Lib.hid (fun m n h => sO_t (W := wdL l) (most := (most : Int)) (l := l) (m := m) (n := n) h)
  have HWd : Hid (∀ u v, wdL l u v = hiW l u v l.length - loW l u v l.length) := Lib.hid (fun u v => rfl)
  have HU := Lib.hid (fun i j => dirU_succ (wdL l) most (pP l) (pQ l) i j)
  have HU0 := Lib.hid (fun i => dirU_zero (wdL l) most (pP l) (pQ l) i)
  have HUA := Lib.hid (fun i => dirU_all (wdL l) most (pP l) (pQ l) i)
  have HUL := Lib.hid (fun i j (hi : i ≤ 2 * most + 1) (hj : j ≤ 2 * most + 1) => dirU_len (W := wdL l) (p := pP l) (q := pQ l) hmo hi hj)
  have HA0 : Hid (dirAll (wdL l) most (pP l) (pQ l) 0 = []) := Lib.hid rfl
  have HND := Lib.hid (dirAll_nodup (W := wdL l) (most := most) hds (2 * most + 1))
  have HDD : Hid (dirD (wdL l) (pP l) (pQ l) most = srt (dirAll (wdL l) most (pP l) (pQ l) (2 * most + 1))) := Lib.hid rfl
  have KO := Lib.hid (fun base v s W hnd hn h hb => sortV_any base v l s W hnd hn h hb)
  obtain ⟨i0, hi0, hz0, hz1, hz2⟩ := info_parts span_info
  have HI := Lib.hid (And.intro hi0 (And.intro hz0 (And.intro hz1 hz2)))
  clear hi0 hz0 hz1 hz2
  have em : IntKind.i64.wrap (-(most : Int)) = -(most : Int) := IntWalk.i64_in _ (by omega)
  have hn0 : 0 < l.length := by omega
  have hn1 : (0 : Int) < (l.length : Int) := by omega
  have HC0 : Hid (∀ W g, SetC W g l.length l.length l → g < W.heap.size ∧ W.cell? ⟨g, 0, none⟩ = some (.int .i64 (vx l 0).1) ∧ W.cell? ⟨g, 1, none⟩ = some (.int .i64 (vx l 0).2) ∧ W.cell? ⟨g, 2, none⟩ = some (.int .i64 (vx l (l.length - 1)).1) ∧ W.cell? ⟨g, 3, none⟩ = some (.int .i64 (vx l (l.length - 1)).2) ∧ W.cell? ⟨g, 4, none⟩ = some (.int .i64 (vx l 1).1) ∧ W.cell? ⟨g, 5, none⟩ = some (.int .i64 (vx l 1).2)) := Lib.hid (by
    rintro W g ⟨h1, _, h3⟩
    have := h3 0 (by omega)
    simp only [Nat.zero_mul, Nat.zero_add] at this
    exact ⟨h1, this⟩)
  generalize dirD (wdL l) (pP l) (pQ l) most = SD at *
  generalize dirAll (wdL l) most (pP l) (pQ l) = SA at *
  generalize dirU (wdL l) most (pP l) (pQ l) = SU at *
  generalize dirO (wdL l) (most : Int) (pP l) (pQ l) = SO at *
  clear hds HB hg hR hf
  go_enter Try.func60, Try.ntmps60
  go_wp2_with fail
  refine KC.out.mono ?_; rintro e w1 ⟨rfl, hb1, hsc⟩
  obtain ⟨y0, y1, y2, y3, y4, y5, y6⟩ := HC0.out _ _ hsc
  clear HC0 KC hsc
  generalize (vx l 0).1 = a1 at *
  generalize (vx l 0).2 = a2 at *
  generalize (vx l (l.length - 1)).1 = b1 at *
  generalize (vx l (l.length - 1)).2 = b2 at *
  generalize (vx l 1).1 = c1 at *
  generalize (vx l 1).2 = c2 at *
  generalize hN : l.length = n at *
  have HN := Lib.hid hN
  clear hN
  go_wp2_with fail
  obtain ⟨W2, hW2⟩ : ∃ W2, W2 = (w1.alloc (.cells #[.int .i64 a1, .int .i64 a2, .int .i64 b1, .int .i64 b2, .int .i64 c1, .int .i64 c2] 107)) := ⟨_, rfl⟩
  rw [← hW2]
  have yW20_0 : W2.cell? ⟨w1.heap.size, 0, none⟩ = some (.int .i64 a1) := by rw [hW2]; go_simp
  have yW20_1 : W2.cell? ⟨w1.heap.size, 1, none⟩ = some (.int .i64 a2) := by rw [hW2]; go_simp
  have yW20_2 : W2.cell? ⟨w1.heap.size, 2, none⟩ = some (.int .i64 b1) := by rw [hW2]; go_simp
  have yW20_3 : W2.cell? ⟨w1.heap.size, 3, none⟩ = some (.int .i64 b2) := by rw [hW2]; go_simp
  have yW20_4 : W2.cell? ⟨w1.heap.size, 4, none⟩ = some (.int .i64 c1) := by rw [hW2]; go_simp
  have yW20_5 : W2.cell? ⟨w1.heap.size, 5, none⟩ = some (.int .i64 c2) := by rw [hW2]; go_simp
  have fW20 : ∀ o, W2.frozen? ⟨w1.heap.size, o, none⟩ = false := by intro o; rw [hW2]; (repeat rw [frozen?_alloc_cells]); simp [World.frozen?]
  have zW20 : w1.heap.size < W2.heap.size := by rw [hW2]; simp <;> omega
  have BW2 : Below w1.heap.size w1 W2 := by rw [hW2]; exact (Below.alloc (Below.refl _ _) (by simp <;> omega) _)
  have eW2 : Hid (W2.heap.size = w1.heap.size + 1) := Lib.hid (by rw [hW2]; simp)
  clear hW2
  have B2 := hb1.trans (BW2.mono hb1.size)
  clear y0 y1 y2 y3 y4 y5 y6 hb1 BW2 eW2 fW20
  obtain ⟨gC, hgC⟩ : ∃ g, g = w1.heap.size := ⟨_, rfl⟩
  rw [← hgC] at yW20_0 yW20_1 yW20_2 yW20_3 yW20_4 yW20_5 zW20 ⊢
  clear hgC
  have HC := Lib.hid (fun W (hb : Below W2.heap.size W2 W) => And.intro (Nat.lt_of_lt_of_le zW20 hb.size) (And.intro (((bcell hb).1 _ 0 zW20).trans yW20_0) (And.intro (((bcell hb).1 _ 1 zW20).trans yW20_1) (And.intro (((bcell hb).1 _ 2 zW20).trans yW20_2) (And.intro (((bcell hb).1 _ 3 zW20).trans yW20_3) (And.intro (((bcell hb).1 _ 4 zW20).trans yW20_4) (((bcell hb).1 _ 5 zW20).trans yW20_5)))))))
  clear yW20_0 yW20_1 yW20_2 yW20_3 yW20_4 yW20_5 zW20
  go_loopg [5, 7] (2 * most + 1) (fun g o mm wr => ∃ (i : Nat) (vv : Value), vv = o ∧ i ≤ 2 * most + 1 ∧ g = 2 * most + 1 - i ∧ mm = .int .i64 ((i : Int) - (most : Int)) ∧ Below W2.heap.size W2 wr ∧ Hid (RowP wr W2.heap.size vv l (SA i)))
  case atStart => exact ⟨0, _, rfl, Nat.zero_le _, rfl, by rw [show ((0 : Nat) : Int) - (most : Int) = -(most : Int) by omega], Below.refl _ _, Lib.hid (by rw [HA0.out]; exact rowP_nil _ _ _)⟩
  case round =>
    obtain ⟨i, vv, rfl, hi, hgi, rfl, hB, hr⟩ := hrel
    rename World => wo
    have HGI := Lib.hid hgi
    clear hgi
    have em : IntKind.i64.wrap (-(most : Int)) = -(most : Int) := IntWalk.i64_in _ (by omega)
    by_cases hlt : i < 2 * most + 1
    · have d1 : (i : Int) - (most : Int) ≤ (most : Int) := by omega
      have hr1 : Hid (RowP wo W2.heap.size vv l (SU i 0)) := Lib.hid (by rw [HU0.out]; exact hr.out)
      clear hr
      go_wp2_with fail
      go_loopg [5, 8] (2 * most + 1) (fun g o mm wr => ∃ (j : Nat) (vv : Value), vv = o ∧ j ≤ 2 * most + 1 ∧ g = 2 * most + 1 - j ∧ mm = .int .i64 ((j : Int) - (most : Int)) ∧ Below W2.heap.size W2 wr ∧ Hid (RowP wr W2.heap.size vv l (SU i j)))
      case atStart => exact ⟨0, _, rfl, Nat.zero_le _, rfl, by rw [show ((0 : Nat) : Int) - (most : Int) = -(most : Int) by omega], hB, hr1⟩
      case round =>
        clear hr1 hB vv
        obtain ⟨j, vv, rfl, hj, hgj, rfl, hB, hr⟩ := hrel
        rename World => wi
        have HGJ := Lib.hid hgj
        clear hgj
        by_cases hlj : j < 2 * most + 1
        · have d2 : (j : Int) - (most : Int) ≤ (most : Int) := by omega
          have hm : -80 ≤ (i : Int) - (most : Int) ∧ (i : Int) - (most : Int) ≤ 80 := by omega
          have hn : -80 ≤ (j : Int) - (most : Int) ∧ (j : Int) - (most : Int) ≤ 80 := by omega
          have KS1 := Lib.hid (fun W => KS.out _ _ W hm hn)
          have hbd := HBD.out _ _ hm hn
          have HF1 := Lib.hid (HOF.out ((i : Int) - (most : Int)) ((j : Int) - (most : Int)))
          have HT1 := Lib.hid (HOT.out ((i : Int) - (most : Int)) ((j : Int) - (most : Int)))
          have HU1 := Lib.hid (HU.out i j)
          have hul := HUL.out i j (by omega) (by omega)
          generalize sX l ((i : Int) - (most : Int)) ((j : Int) - (most : Int)) = u at *
          generalize sY l ((i : Int) - (most : Int)) ((j : Int) - (most : Int)) = v at *
          generalize sB l ((i : Int) - (most : Int)) ((j : Int) - (most : Int)) = ok at *
          generalize SO ((i : Int) - (most : Int)) ((j : Int) - (most : Int)) = so at *
          obtain ⟨hbu, hbv⟩ := hbd
          have KT1 := Lib.hid (fun W => KT.out u v W hbu hbv)
          have KU1 := Lib.hid (fun W hb => KU.out u v W hbu hbv hb)
          have KW1 := Lib.hid (fun W => KW.out u v W hbu hbv)
          have hw := HWd.out u v
          have HEN : Hid (encS l (u, v) = [.int .i64 u, .int .i64 v, .int .i64 (loW l u v n), .int .i64 (hiW l u v n)]) := Lib.hid (by rw [← HN.out]; rfl)
          rw [hw] at HT1
          generalize loW l u v n = lo at *
          generalize hiW l u v n = hi at *
          generalize toldB u v = tb at *
          clear hw hbu hbv
          obtain ⟨x0, x1, x2, x3, x4, x5, x6⟩ := HC.out _ hB
          cases ok
          · have HE := Lib.hid (HF1.out rfl)
            clear HF1 HT1
            go_wp2_with fail
            refine (KS1.out _).mono ?_; rintro e w3 ⟨rfl, hb3⟩
            have B3 := hB.trans (hb3.mono hB.size)
            have R3 := Lib.hid (rowP_below hr.out hb3 (Nat.le_refl _))
            clear hb3 hr hB x0 x1 x2 x3 x4 x5 x6 KS1 hm hn
            go_wp2_with fail
            go_roundg (2 * most + 1 - (j + 1))
            case measure => have := HGJ.out; omega
            case rel => exact ⟨j + 1, _, rfl, by omega, rfl, by first | go_num | (congr 1; omega), Below.alloc B3 B3.size _, Lib.hid (by rw [HU1.out, HE.out, List.append_nil]; exact rowP_below R3.out (Below.alloc (Below.refl _ _) (Nat.le_refl _) _) (Nat.le_refl _))⟩
          have HE0 := Lib.hid (HT1.out rfl)
          clear HF1 HT1
          go_wp2_with fail
          refine (KS1.out _).mono ?_; rintro e w3 ⟨rfl, hb3⟩
          have B3 := hB.trans (hb3.mono hB.size)
          have R3 := Lib.hid (rowP_below hr.out hb3 (Nat.le_refl _))
          clear hb3 hr hB x0 x1 x2 x3 x4 x5 x6 KS1 hm hn
          go_wp2_with fail
          obtain ⟨W4, hW4⟩ : ∃ W4, W4 = (w3.alloc (.cells #[.int .i64 u, .int .i64 v] 66)) := ⟨_, rfl⟩
          rw [← hW4]
          have yW40_0 : W4.cell? ⟨w3.heap.size, 0, none⟩ = some (.int .i64 u) := by rw [hW4]; go_simp
          have yW40_1 : W4.cell? ⟨w3.heap.size, 1, none⟩ = some (.int .i64 v) := by rw [hW4]; go_simp
          have fW40 : ∀ o, W4.frozen? ⟨w3.heap.size, o, none⟩ = false := by intro o; rw [hW4]; (repeat rw [frozen?_alloc_cells]); simp [World.frozen?]
          have zW40 : w3.heap.size < W4.heap.size := by rw [hW4]; simp <;> omega
          have BW4 : Below w3.heap.size w3 W4 := by rw [hW4]; exact (Below.alloc (Below.refl _ _) (by simp <;> omega) _)
          have eW4 : Hid (W4.heap.size = w3.heap.size + 1) := Lib.hid (by rw [hW4]; simp)
          clear hW4
          have B4 := B3.trans (BW4.mono B3.size)
          have R4 := Lib.hid (rowP_below R3.out BW4 (Nat.le_refl _))
          clear BW4 B3 R3 eW4 fW40
          cases tb
          · have HE : Hid (so = []) := Lib.hid (by rw [HE0.out]; rfl)
            clear HE0
            refine (KT1.out _).mono ?_; rintro e w5 ⟨rfl, hb5⟩
            have B5 := B4.trans (hb5.mono B4.size)
            have R5 := Lib.hid (rowP_below R4.out hb5 (Nat.le_refl _))
            clear hb5 R4 B4 yW40_0 yW40_1 zW40
            go_wp2_with fail
            go_roundg (2 * most + 1 - (j + 1))
            case measure => have := HGJ.out; omega
            case rel => exact ⟨j + 1, _, rfl, by omega, rfl, by first | go_num | (congr 1; omega), B5, Lib.hid (by rw [HU1.out, HE.out, List.append_nil]; exact R5.out)⟩
          refine (KT1.out _).mono ?_; rintro e w5 ⟨rfl, hb5⟩
          have B5 := B4.trans (hb5.mono B4.size)
          have R5 := Lib.hid (rowP_below R4.out hb5 (Nat.le_refl _))
          have q0 := ((bcell hb5).1 _ 0 zW40).trans yW40_0
          have q1 := ((bcell hb5).1 _ 1 zW40).trans yW40_1
          have qz := Nat.lt_of_lt_of_le zW40 hb5.size
          clear hb5 R4 B4 yW40_0 yW40_1 zW40
          go_wp2_with fail
          refine (KU1.out _ (B2.trans (B5.mono B2.size))).mono ?_; rintro e w6 ⟨rfl, hb6⟩
          have B6 := B5.trans (hb6.mono B5.size)
          have R6 := Lib.hid (rowP_below R5.out hb6 (Nat.le_refl _))
          clear hb6 R5 B5 q0 q1 qz
          go_wp2_with fail
          obtain ⟨W7, hW7⟩ : ∃ W7, W7 = (w6.alloc (.cells #[.int .i64 u, .int .i64 v, .int .i64 lo, .int .i64 hi] 68)) := ⟨_, rfl⟩
          rw [← hW7]
          have yW70_0 : W7.cell? ⟨w6.heap.size, 0, none⟩ = some (.int .i64 u) := by rw [hW7]; go_simp
          have yW70_1 : W7.cell? ⟨w6.heap.size, 1, none⟩ = some (.int .i64 v) := by rw [hW7]; go_simp
          have yW70_2 : W7.cell? ⟨w6.heap.size, 2, none⟩ = some (.int .i64 lo) := by rw [hW7]; go_simp
          have yW70_3 : W7.cell? ⟨w6.heap.size, 3, none⟩ = some (.int .i64 hi) := by rw [hW7]; go_simp
          have fW70 : ∀ o, W7.frozen? ⟨w6.heap.size, o, none⟩ = false := by intro o; rw [hW7]; (repeat rw [frozen?_alloc_cells]); simp [World.frozen?]
          have zW70 : w6.heap.size < W7.heap.size := by rw [hW7]; simp <;> omega
          have BW7 : Below w6.heap.size w6 W7 := by rw [hW7]; exact (Below.alloc (Below.refl _ _) (by simp <;> omega) _)
          have eW7 : Hid (W7.heap.size = w6.heap.size + 1) := Lib.hid (by rw [hW7]; simp)
          clear hW7
          have B7 := B6.trans (BW7.mono B6.size)
          have R7 := Lib.hid (rowP_below R6.out BW7 (Nat.le_refl _))
          clear BW7 B6 R6 eW7 fW70
          refine (KW1.out _).mono ?_; rintro e w8 ⟨rfl, hb8⟩
          have B8 := B7.trans (hb8.mono B7.size)
          have R8 := Lib.hid (rowP_below R7.out hb8 (Nat.le_refl _))
          have q0 := ((bcell hb8).1 _ 0 zW70).trans yW70_0
          have q1 := ((bcell hb8).1 _ 1 zW70).trans yW70_1
          have q2 := ((bcell hb8).1 _ 2 zW70).trans yW70_2
          have q3 := ((bcell hb8).1 _ 3 zW70).trans yW70_3
          have qz := Nat.lt_of_lt_of_le zW70 hb8.size
          clear hb8 R7 B7 yW70_0 yW70_1 yW70_2 yW70_3 zW70
          by_cases hle : hi - lo ≤ (most : Int)
          · have HE : Hid (so = [(u, v)]) := Lib.hid (by rw [HE0.out, decide_eq_true hle]; rfl)
            have HBU := Lib.hid (Below.alloc B8 B8.size (.cells #[.int .i64 u, .int .i64 v, .int .i64 lo, .int .i64 hi] 68))
            have HO := Lib.hid (rowP_below R8.out (Below.alloc (Below.refl _ _) (Nat.le_refl _) (.cells #[.int .i64 u, .int .i64 v, .int .i64 lo, .int .i64 hi] 68)) (Nat.le_refl _))
            have hz5 := HBU.out.size
            clear HE0
            go_wp2_with (at_builtin; refine wpList_append_own_at _ rfl (.tmp 51) (.tmp 53) 69 rfl W2.heap.size 68 i0 (.agg #[.int .i64 0, .int .i64 0, .int .i64 0, .int .i64 0]) 4 32 Try.underlying69 HI.out.1 HI.out.2.1 HI.out.2.2.1 HI.out.2.2.2 rfl (by decide) vv (SU i j).length (flS l (SU i j)) rfl HO.out ⟨w8.heap.size, 0, none⟩ 1 1 [.int .i64 u, .int .i64 v, .int .i64 lo, .int .i64 hi] rfl rfl (four_cells (by go_simp) (by go_simp) (by go_simp) (by go_simp)) (by rw [← HEN.out]; exact encS_one _ _) (by unfold maxLen; omega) (by omega) hz5 ?_)
            intro v' w9 own9 hgr9 _ hat
            have B9 := HBU.out.grown hgr9 HBU.out.size (fun g hg => (World.ownsRow.lt HO.out g hg).1)
            have HO9 : Hid (RowP w9 W2.heap.size v' l (SU i (j + 1))) := Lib.hid (by
              rw [HU1.out, HE.out]
              unfold RowP
              rw [flS_snoc, List.length_append, HEN.out]
              exact own9)
            clear own9 hgr9 hat HBU HO hz5 q0 q1 q2 q3 qz hle R8 B8
            go_wp2_with fail
            go_roundg (2 * most + 1 - (j + 1))
            case measure => have := HGJ.out; omega
            case rel => exact ⟨j + 1, v', rfl, by omega, rfl, by first | go_num | (congr 1; omega), B9, HO9⟩
          · have HE : Hid (so = []) := Lib.hid (by rw [HE0.out, decide_eq_false hle]; rfl)
            clear HE0
            go_wp2_with fail
            go_roundg (2 * most + 1 - (j + 1))
            case measure => have := HGJ.out; omega
            case rel => exact ⟨j + 1, _, rfl, by omega, rfl, by first | go_num | (congr 1; omega), B8, Lib.hid (by rw [HU1.out, HE.out, List.append_nil]; exact R8.out)⟩
        · obtain rfl : j = 2 * most + 1 := by omega
          have d2 : ¬ ((2 * most + 1 : Nat) : Int) - (most : Int) ≤ (most : Int) := by omega
          have hr2 : Hid (RowP wi W2.heap.size vv l (SA (i + 1))) := Lib.hid (by rw [← HUA.out]; exact hr.out)
          clear hr
          go_wp2_with fail
          go_roundg (2 * most + 1 - (i + 1))
          case measure => have := HGI.out; omega
          case rel => exact ⟨i + 1, _, rfl, by omega, rfl, by first | go_num | (congr 1; omega), hB, hr2⟩
    · obtain rfl : i = 2 * most + 1 := by omega
      have d1 : ¬ ((2 * most + 1 : Nat) : Int) - (most : Int) ≤ (most : Int) := by omega
      have hlen : (SA (2 * most + 1)).length ≤ 1000000 := by have := HUL.out (2 * most) (2 * most + 1) (by omega) (by omega); rw [HUA.out] at this; omega
      have KO1 := Lib.hid (KO.out W2.heap.size vv (SA (2 * most + 1)) wo HND.out hlen hr.out hB.size)
      clear hlen hr
      go_wp2_with fail
      refine KO1.out.mono ?_; rintro e w9 ⟨rfl, ho9, hb9⟩
      have HO9 := Lib.hid ho9
      clear ho9 KO1
      go_wp2_with fail
      go_ret
      exact ⟨⟨_, rfl, by rw [HDD.out]; exact rowP_base HO9.out B2.size⟩, B2.trans ((hB.trans hb9).mono B2.size)⟩
end Go.Proofs.Ytheddoinnakneaa
/- contracts: CountDirections, the model -/
namespace Go.Proofs.Ytheddoinnakneaa
open Go.ChangeShapes Go.WideShapes Go.ChangeAt Go.RowKit Go.Joins
set_option linter.unusedVariables false
set_option linter.unusedSimpArgs false
set_option maxRecDepth 4000
/-- the told directions of a width of at most so many -/
def dirG (l : List (Int × Int)) (most : Nat) : List (Int × Int) := dirD (wdL l) (subP (vx l 1) (vx l 0)) (subP (vx l 2) (vx l 0)) most
theorem rowM_val {w : World} {base : Nat} {v : Value} {m : List (Int × Int)} (h : RowM w base v m) : ∃ A c, v = .slice A m.length c ∧ RowM w base (.slice A m.length c) m := by
  have h0 := h
  obtain ⟨q, ho, _⟩ := h
  rcases own_val ho with ⟨hv, hn⟩ | ⟨g, cap, hv, _⟩
  · exact ⟨none, 0, by rw [hv, hn], by rw [hv] at h0; rw [hn]; exact h0⟩
  · exact ⟨_, cap, hv, by rw [hv] at h0; exact h0⟩
noncomputable def okC (l : List (Int × Int)) (most : Int) : Bool := goodB l && (decide (0 ≤ most) && decide (most ≤ 60))
noncomputable def cdS (l : List (Int × Int)) (most : Int) : Int := if okC l most = true then ((dirG l most.toNat).length : Int) else 0
theorem specCountDirections_any (A : Option Addr) (c : Nat) (l : List (Int × Int)) (most : Int) (w : World) (hn : l.length ≤ 1048576) (hcap : l.length ≤ c) (hc2 : c ≤ 9223372036854775807) (hR : Rd w w.heap.size A l) :
    Calls Try.prog 26 #[.slice A l.length c, .int .i64 most] w fun e w' => e = .returned (.tuple #[.int .i64 (cdS l most), .bool (okC l most)]) ∧ Below w.heap.size w w' := by
  have K := Lib.hid (pgGood_any A c l w hn hcap hc2 hR)
  have KI := Lib.hid (fun W => l1In_any most 0 60 W)
  by_cases hg : goodB l = true
  · by_cases hm : 0 ≤ most ∧ most ≤ 60
    · obtain ⟨m, rfl⟩ : ∃ m : Nat, most = (m : Int) := ⟨most.toNat, by omega⟩
      have hgg : Good l := by unfold goodB at hg; simpa using hg
      have K2 := Lib.hid (fun W (hb : Below w.heap.size w W) => wiAll_any A c l m W (by omega) hgg (rd_more (rd_below hR hb (Nat.le_refl _)) hb.size))
      have hok : okC l (m : Int) = true := by unfold okC; rw [hg, decide_eq_true hm.1, decide_eq_true hm.2]; rfl
      have hcd : cdS l (m : Int) = ((dirG l m).length : Int) := by unfold cdS; rw [if_pos hok]; rfl
      rw [hcd, hok]
      rw [hg] at K
      rw [decide_eq_true hm.1, decide_eq_true hm.2] at KI
      change Hid (∀ W, Below w.heap.size w W → Calls Try.prog 59 #[.slice A l.length c, .int .i64 (m : Int)] W fun e w' => (∃ v, e = .returned v ∧ RowM w' W.heap.size v (dirG l m)) ∧ Below W.heap.size W w') at K2
      generalize dirG l m = dm at *
      clear hcd hok hgg hm hg hR
      go_enter Try.func26, Try.ntmps26
      go_wp2_with fail
      refine K.out.mono ?_; rintro e w1 ⟨rfl, hb1⟩
      go_wp2_with fail
      refine (KI.out _).mono ?_; rintro e _ ⟨rfl, rfl⟩
      go_wp2_with fail
      refine (K2.out _ hb1).mono ?_; rintro e w2 ⟨⟨v, rfl, hrv⟩, hb2⟩
      obtain ⟨A2, c2, rfl, _⟩ := rowM_val hrv
      clear hrv
      go_wp2_with fail
      go_ret2
      exact ⟨rfl, hb1.trans (hb2.mono hb1.size)⟩
    · have hok : okC l most = false := by
        unfold okC; rw [hg]
        by_cases h0 : 0 ≤ most
        · rw [decide_eq_false (show ¬ most ≤ 60 by omega), Bool.and_false]; rfl
        · rw [decide_eq_false h0]; rfl
      have hcd : cdS l most = 0 := by unfold cdS; rw [hok]; rfl
      have hii : (decide (0 ≤ most) && decide (most ≤ 60)) = false := by
        by_cases h0 : 0 ≤ most
        · rw [decide_eq_false (show ¬ most ≤ 60 by omega), Bool.and_false]
        · rw [decide_eq_false h0]; rfl
      rw [hcd, hok]
      rw [hg] at K
      rw [hii] at KI
      clear hcd hok hm hg hR hii
      go_enter Try.func26, Try.ntmps26
      go_wp2_with fail
      refine K.out.mono ?_; rintro e w1 ⟨rfl, hb1⟩
      go_wp2_with fail
      refine (KI.out _).mono ?_; rintro e _ ⟨rfl, rfl⟩
      go_wp2_with fail
      go_ret2
      exact ⟨rfl, hb1⟩
  · have hgf : goodB l = false := by simpa using hg
    have hok : okC l most = false := by unfold okC; rw [hgf]; rfl
    have hcd : cdS l most = 0 := by unfold cdS; rw [hok]; rfl
    rw [hcd, hok]
    rw [hgf] at K
    clear hcd hok hg hgf hR
    go_enter Try.func26, Try.ntmps26
    go_wp2_with fail
    refine K.out.mono ?_; rintro e w1 ⟨rfl, hb1⟩
    go_wp2_with fail
    go_ret2
    exact ⟨rfl, hb1⟩
end Go.Proofs.Ytheddoinnakneaa
/- contract: CountDirections, the program -/
namespace Go.Proofs.Ytheddoinnakneaa
open Go.ChangeShapes Go.WideShapes Go.ChangeAt Go.RowKit Go.Joins
set_option linter.unusedVariables false
set_option linter.unusedSimpArgs false
set_option maxRecDepth 4000
theorem rowP_val {w : World} {base : Nat} {v : Value} {l s : List (Int × Int)} (h : RowP w base v l s) : ∃ A c, v = .slice A s.length c ∧ RowP w base (.slice A s.length c) l s := by
  have h0 := h
  rcases own_val h with ⟨hv, hn⟩ | ⟨g, cap, hv, _⟩
  · exact ⟨none, 0, by rw [hv, hn], by rw [hv] at h0; rw [hn]; exact h0⟩
  · exact ⟨_, cap, hv, by rw [hv] at h0; exact h0⟩
theorem dirG_prog {l : List (Int × Int)} (hg : Good l) (m : Nat) : dirD (wdL l) (pP l) (pQ l) m = dirG l m := dirD_same (base_prog hg) (base_model hg) m
theorem implCountDirections_any (A : Option Addr) (c : Nat) (l : List (Int × Int)) (most : Int) (w : World) (hn : l.length ≤ 1048576) (hR : Rd w w.heap.size A l) :
    Calls Try.prog 27 #[.slice A l.length c, .int .i64 most] w fun e w' => e = .returned (.tuple #[.int .i64 (cdS l most), .bool (okC l most)]) ∧ Below w.heap.size w w' := by
  have K := Lib.hid (implIsPolygon_any A c l w hn hR)
  by_cases hg : goodB l = true
  · by_cases hm : 0 ≤ most ∧ most ≤ 60
    · obtain ⟨m, rfl⟩ : ∃ m : Nat, most = (m : Int) := ⟨most.toNat, by omega⟩
      have hgg : Good l := by unfold goodB at hg; simpa using hg
      have K2 := Lib.hid (fun W (hb : Below w.heap.size w W) => spansUpTo_any A c l m W (by omega) hgg (rd_more (rd_below hR hb (Nat.le_refl _)) hb.size))
      have hok : okC l (m : Int) = true := by unfold okC; rw [hg, decide_eq_true hm.1, decide_eq_true hm.2]; rfl
      have hcd : cdS l (m : Int) = ((dirG l m).length : Int) := by unfold cdS; rw [if_pos hok]; rfl
      rw [hcd, hok]
      rw [hg] at K
      rw [dirG_prog hgg] at K2
      generalize dirG l m = dm at *
      have h1 : ¬ (m : Int) < 0 := by omega
      have h2 : ¬ (60 : Int) < (m : Int) := by omega
      clear hcd hok hgg hm hg hR
      go_enter Try.func27, Try.ntmps27
      go_wp2_with fail
      refine K.out.mono ?_; rintro e w1 ⟨rfl, hb1⟩
      go_wp2_with fail
      refine (K2.out _ hb1).mono ?_; rintro e w2 ⟨⟨v, rfl, hrv⟩, hb2⟩
      obtain ⟨A2, c2, rfl, _⟩ := rowP_val hrv
      clear hrv
      go_wp2_with fail
      go_ret2
      exact ⟨rfl, hb1.trans (hb2.mono hb1.size)⟩
    · have hok : okC l most = false := by
        unfold okC; rw [hg]
        by_cases h0 : 0 ≤ most
        · rw [decide_eq_false (show ¬ most ≤ 60 by omega), Bool.and_false]; rfl
        · rw [decide_eq_false h0]; rfl
      have hcd : cdS l most = 0 := by unfold cdS; rw [hok]; rfl
      rw [hcd, hok]
      rw [hg] at K
      clear hcd hok hg hR
      by_cases h1 : most < 0
      · go_enter Try.func27, Try.ntmps27
        go_wp2_with fail
        refine K.out.mono ?_; rintro e w1 ⟨rfl, hb1⟩
        go_wp2_with fail
        go_ret2
        exact ⟨rfl, hb1⟩
      · have h2 : (60 : Int) < most := by omega
        go_enter Try.func27, Try.ntmps27
        go_wp2_with fail
        refine K.out.mono ?_; rintro e w1 ⟨rfl, hb1⟩
        go_wp2_with fail
        go_ret2
        exact ⟨rfl, hb1⟩
  · have hgf : goodB l = false := by simpa using hg
    have hok : okC l most = false := by unfold okC; rw [hgf]; rfl
    have hcd : cdS l most = 0 := by unfold cdS; rw [hok]; rfl
    rw [hcd, hok]
    rw [hgf] at K
    clear hcd hok hg hgf hR
    go_enter Try.func27, Try.ntmps27
    go_wp2_with fail
    refine K.out.mono ?_; rintro e w1 ⟨rfl, hb1⟩
    go_wp2_with fail
    go_ret2
    exact ⟨rfl, hb1⟩
end Go.Proofs.Ytheddoinnakneaa
/- contracts: the spans that are too wide are struck out: the program's own slices.IndexFunc and slices.DeleteFunc -/
namespace Go.Proofs.Ytheddoinnakneaa
open Go.ChangeShapes Go.WideShapes Go.ChangeAt Go.RowKit Go.Joins
set_option linter.unusedVariables false
set_option linter.unusedSimpArgs false
set_option maxRecDepth 4000
theorem wideF_any (u v a b wd : Int) (gw : Nat) (w : World) (h1 : -1600000 ≤ a) (h2 : a ≤ 1600000) (h3 : -1600000 ≤ b) (h4 : b ≤ 1600000) (hz : gw < w.heap.size) (hc : w.cell? ⟨gw, 0, none⟩ = some (.int .i64 wd)) :
    Calls Try.prog 92 #[.agg #[.int .i64 u, .int .i64 v, .int .i64 a, .int .i64 b], .pointer (some ⟨gw, 0, none⟩)] w fun e w' => e = .returned (.bool (decide (wd < b - a))) ∧ Below w.heap.size w w' := by
  have KW := Lib.hid (fun W => width_any u v a b W h1 h2 h3 h4)
  generalize b - a = d at *
  go_enter Try.func92, Try.ntmps92
  go_wp2_with fail
  obtain ⟨W0, hW0⟩ : ∃ W0, W0 = (w.alloc (.cells #[.int .i64 u, .int .i64 v, .int .i64 a, .int .i64 b] 68)) := ⟨_, rfl⟩
  rw [← hW0]
  have yW00_0 : W0.cell? ⟨w.heap.size, 0, none⟩ = some (.int .i64 u) := by rw [hW0]; go_simp
  have yW00_1 : W0.cell? ⟨w.heap.size, 1, none⟩ = some (.int .i64 v) := by rw [hW0]; go_simp
  have yW00_2 : W0.cell? ⟨w.heap.size, 2, none⟩ = some (.int .i64 a) := by rw [hW0]; go_simp
  have yW00_3 : W0.cell? ⟨w.heap.size, 3, none⟩ = some (.int .i64 b) := by rw [hW0]; go_simp
  have fW00 : ∀ o, W0.frozen? ⟨w.heap.size, o, none⟩ = false := by intro o; rw [hW0]; (repeat rw [frozen?_alloc_cells]); simp [World.frozen?]
  have zW00 : w.heap.size < W0.heap.size := by rw [hW0]; simp <;> omega
  have BW0 : Below w.heap.size w W0 := by rw [hW0]; exact (Below.alloc (Below.refl _ _) (by simp <;> omega) _)
  have eW0 : Hid (W0.heap.size = w.heap.size + 1) := Lib.hid (by rw [hW0]; simp)
  clear hW0
  have q0 := ((bcell BW0).1 _ 0 hz).trans hc
  have qz := Nat.lt_of_lt_of_le hz BW0.size
  refine wp_region_BT 3 (fun W => Below (W0).heap.size (W0) W) (by kernel_rfl) (by kernel_rfl) (by repeat (first | exact Below.refl _ _ | apply Below.drew)) ?_
  simp only [List.take_succ_cons, List.take_zero, List.drop_succ_cons, List.drop_zero]
  first | refine wpH_skip (by rfl) ?_ | (refine wpH_text (v := ?_) (by rfl) (fun W k1 => ?_) ?_; rotate_left; (obtain ⟨hc1, hf1⟩ := bcell k1;  go_simp; refine comes_v ?_; exact k1))
  (try simp only [Act.put, List.setIfInBounds_toArray, List.set_cons_zero, List.set_cons_succ])
  first | refine wpH_skip (by rfl) ?_ | (refine wpH_text (v := .int .i64 d) (by rfl) (fun W k1 => ?_) ?_; (obtain ⟨hc1, hf1⟩ := bcell k1;  go_simp; exact comes_c ( KW.out _) (fun wn hbn => k1.trans (hbn.mono k1.size))))
  (try simp only [Act.put, List.setIfInBounds_toArray, List.set_cons_zero, List.set_cons_succ])
  first | refine wpH_skip (by rfl) ?_ | (refine wpH_text (v := ?_) (by rfl) (fun W k1 => ?_) ?_; rotate_left; (obtain ⟨hc1, hf1⟩ := bcell k1;  go_simp; refine comes_v ?_; exact k1))
  (try simp only [Act.put, List.setIfInBounds_toArray, List.set_cons_zero, List.set_cons_succ])
  refine wpH_nil ?_
  intro W k1; obtain ⟨hc1, hf1⟩ := bcell k1
  have BB := BW0.trans (k1.mono BW0.size)
  go_wp2_with fail
  go_ret
  exact ⟨rfl, BB⟩
/-- the values of a span are not too great -/
def Sml (l : List (Int × Int)) (t : Int × Int) : Prop := -1600000 ≤ loW l t.1 t.2 l.length ∧ loW l t.1 t.2 l.length ≤ 1600000 ∧ -1600000 ≤ hiW l t.1 t.2 l.length ∧ hiW l t.1 t.2 l.length ≤ 1600000
set_option maxHeartbeats 4000000 in
theorem indexF_any (base g cap gw : Nat) (wd : Int) (l s : List (Int × Int)) (w : World) (h : RowP w base (.slice (some ⟨g, 0, none⟩) s.length cap) l s) (hs : ∀ i, i < s.length → Sml l (pt s i)) (hlen : s.length ≤ 1000000) (hz : gw < w.heap.size) (hc : w.cell? ⟨gw, 0, none⟩ = some (.int .i64 wd)) :
    Calls Try.prog 126 #[.slice (some ⟨g, 0, none⟩) s.length cap, .func (.func 92) #[] #[.pointer (some ⟨gw, 0, none⟩)]] w fun e w' =>
      ((∃ k : Nat, e = .returned (.int .i64 (k : Int)) ∧ k < s.length ∧ wd < wdL l (pt s k).1 (pt s k).2 ∧ ∀ j, j < k → wdL l (pt s j).1 (pt s j).2 ≤ wd) ∨ (e = .returned (.int .i64 (-1)) ∧ ∀ j, j < s.length → wdL l (pt s j).1 (pt s j).2 ≤ wd)) ∧ Below w.heap.size w w' := by
  have hlt : g < w.heap.size := (World.ownsRow.lt h g rfl).2
  have HR := Lib.hid (fun i (hi : i < s.length) => rowP_at h hi)
  have HS := Lib.hid hs
  have KD := Lib.hid (fun i (hi : i < s.length) W (hb : Below w.heap.size w W) => wideF_any (pt s i).1 (pt s i).2 (loW l (pt s i).1 (pt s i).2 l.length) (hiW l (pt s i).1 (pt s i).2 l.length) wd gw W (hs i hi).1 (hs i hi).2.1 (hs i hi).2.2.1 (hs i hi).2.2.2 (Nat.lt_of_lt_of_le hz hb.size) (((bcell hb).1 _ 0 hz).trans hc))
  have HWd : Hid (∀ t : Int × Int, hiW l t.1 t.2 l.length - loW l t.1 t.2 l.length = wdL l t.1 t.2) := Lib.hid (fun t => rfl)
  clear h hs hc
  generalize hN : s.length = n at *
  clear hN
  go_enter Try.func126, Try.ntmps126
  go_wp2_with fail
  go_loopg [8] n (fun gg i wr => ∃ k : Nat, k ≤ n ∧ gg = n - k ∧ i = .int .i64 (k : Int) ∧ Below w.heap.size w wr ∧ Hid (∀ j, j < k → wdL l (pt s j).1 (pt s j).2 ≤ wd))
  case atStart => exact ⟨0, Nat.zero_le _, rfl, rfl, Below.refl _ _, Lib.hid (fun j hj => absurd hj (Nat.not_lt_zero _))⟩
  case round =>
    obtain ⟨k, hk, hgg, rfl, hB, HJ⟩ := hrel
    rename World => wo
    have HGK := Lib.hid hgg
    clear hgg
    by_cases hkn : k < n
    · obtain ⟨c0, c1, c2, c3⟩ := HR.out k hkn
      have c0 := ((bcell hB).1 _ _ hlt).trans c0
      have c1 := ((bcell hB).1 _ _ hlt).trans c1
      have c2 := ((bcell hB).1 _ _ hlt).trans c2
      have c3 := ((bcell hB).1 _ _ hlt).trans c3
      have cz := Nat.lt_of_lt_of_le hlt hB.size
      have KD1 := Lib.hid (KD.out k hkn wo hB)
      have hw := HWd.out (pt s k)
      generalize loW l (pt s k).1 (pt s k).2 l.length = lo at *
      generalize hiW l (pt s k).1 (pt s k).2 l.length = hi at *
      by_cases hle : wd < hi - lo
      · rw [decide_eq_true hle] at KD1
        have HF := Lib.hid (show wd < wdL l (pt s k).1 (pt s k).2 by rw [← hw]; exact hle)
        clear hle hw
        go_wp2_with fail
        refine KD1.out.mono ?_; rintro e w2 ⟨rfl, hb2⟩
        have B2 := hB.trans (hb2.mono hB.size)
        go_wp2_with fail
        go_ret
        exact ⟨Or.inl ⟨k, rfl, hkn, HF.out, HJ.out⟩, B2⟩
      · rw [decide_eq_false hle] at KD1
        have HF := Lib.hid (show wdL l (pt s k).1 (pt s k).2 ≤ wd by rw [← hw]; omega)
        clear hle hw
        go_wp2_with fail
        refine KD1.out.mono ?_; rintro e w2 ⟨rfl, hb2⟩
        have B2 := hB.trans (hb2.mono hB.size)
        go_wp2_with fail
        go_roundg (n - (k + 1))
        case measure => have := HGK.out; omega
        case rel => exact ⟨k + 1, by omega, rfl, by go_num, B2, Lib.hid (fun j hj => by
          rcases Nat.lt_or_ge j k with h | h
          · exact HJ.out j h
          · obtain rfl : j = k := by omega
            exact HF.out)⟩
    · obtain rfl : k = n := by omega
      go_wp2_with fail
      go_ret
      exact ⟨Or.inr ⟨rfl, HJ.out⟩, hB⟩
end Go.Proofs.Ytheddoinnakneaa
/- contract: the program's own slices.DeleteFunc of spans -/
namespace Go.Proofs.Ytheddoinnakneaa
open Go.ChangeShapes Go.WideShapes Go.ChangeAt Go.RowKit Go.Joins
set_option linter.unusedVariables false
set_option linter.unusedSimpArgs false
set_option maxRecDepth 4000
/-- what DeleteFunc holds when it has looked at the first j spans -/
structure KI (p : Int × Int → Bool) (s : List (Int × Int)) (j : Nat) (dk : List (Int × Int)) : Prop where
  len : dk.length = s.length
  pre : dk.take ((s.take j).filter p).length = (s.take j).filter p
  suf : ∀ t, j ≤ t → dk[t]? = s[t]?
theorem take_pt {s : List (Int × Int)} {j : Nat} (hj : j < s.length) : s.take (j + 1) = s.take j ++ [pt s j] := by
  rw [List.take_add_one, pt_get hj]; rfl
theorem filt_le (p : Int × Int → Bool) (s : List (Int × Int)) (j : Nat) (hj : j ≤ s.length) : ((s.take j).filter p).length ≤ j := by
  have h := List.length_filter_le p (s.take j)
  rw [List.length_take] at h
  omega
theorem ki_skip {p : Int × Int → Bool} {s : List (Int × Int)} {j : Nat} {dk : List (Int × Int)} (h : KI p s j dk) (hj : j < s.length) (hp : p (pt s j) = false) : KI p s (j + 1) dk ∧ ((s.take (j + 1)).filter p).length = ((s.take j).filter p).length := by
  have e : (s.take (j + 1)).filter p = (s.take j).filter p := by rw [take_pt hj, List.filter_append]; simp [hp]
  exact ⟨⟨h.len, by rw [e]; exact h.pre, fun t ht => h.suf t (by omega)⟩, by rw [e]⟩
theorem ki_keep {p : Int × Int → Bool} {s : List (Int × Int)} {j : Nat} {dk : List (Int × Int)} (h : KI p s j dk) (hj : j < s.length) (hp : p (pt s j) = true) : KI p s (j + 1) (dk.set ((s.take j).filter p).length (pt s j)) ∧ ((s.take (j + 1)).filter p).length = ((s.take j).filter p).length + 1 := by
  have e : (s.take (j + 1)).filter p = (s.take j).filter p ++ [pt s j] := by rw [take_pt hj, List.filter_append]; simp [hp]
  have hle := filt_le p s j (by omega)
  have e2 : ((s.take (j + 1)).filter p).length = ((s.take j).filter p).length + 1 := by rw [e, List.length_append]; rfl
  have hp2 := h.pre
  generalize hi : ((s.take j).filter p).length = i at *
  refine ⟨⟨by rw [List.length_set]; exact h.len, ?_, fun t ht => ?_⟩, e2⟩
  · rw [e2, e, List.take_add_one, List.take_set_of_le (Nat.le_refl _), hp2, List.getElem?_set_self (by rw [h.len]; omega)]
    rfl
  · rw [List.getElem?_set_ne (by omega)]; exact h.suf t (by omega)
theorem ki_start {p : Int × Int → Bool} {s : List (Int × Int)} {k : Nat} (hk : k < s.length) (hp : p (pt s k) = false) (hall : ∀ j, j < k → p (pt s j) = true) : KI p s (k + 1) s ∧ ((s.take (k + 1)).filter p).length = k := by
  have e0 : (s.take k).filter p = s.take k := by
    rw [List.filter_eq_self]
    intro a ha
    obtain ⟨i, hi⟩ := List.mem_iff_getElem?.1 ha
    have hik : i < k := by
      rcases Nat.lt_or_ge i k with h | h
      · exact h
      · rw [List.getElem?_take, if_neg (by omega)] at hi; cases hi
    rw [List.getElem?_take, if_pos hik, pt_get (by omega)] at hi
    injection hi with hi
    rw [← hi]
    exact hall i hik
  have e : (s.take (k + 1)).filter p = s.take k := by rw [take_pt hk, List.filter_append, e0]; simp [hp]
  have el : (s.take k).length = k := by rw [List.length_take]; omega
  exact ⟨⟨rfl, by rw [e, el], fun _ _ => rfl⟩, by rw [e, el]⟩
theorem filt_lt {p : Int × Int → Bool} {s : List (Int × Int)} {k : Nat} (hk : k < s.length) (hp : p (pt s k) = false) {j : Nat} (hkj : k < j) (hj : j ≤ s.length) : ((s.take j).filter p).length < j := by
  have e : s.take j = s.take (k + 1) ++ (s.take j).drop (k + 1) := by
    have h := (List.take_append_drop (k + 1) (s.take j)).symm
    rw [List.take_take, Nat.min_eq_left (by omega)] at h
    exact h
  rw [e, List.filter_append, List.length_append, take_pt hk, List.filter_append, List.length_append]
  have h1 := filt_le p s k (by omega)
  have h2 := List.length_filter_le p ((s.take j).drop (k + 1))
  rw [List.length_drop, List.length_take] at h2
  have h3 : ([pt s k].filter p).length = 0 := by simp [hp]
  omega
theorem first_wide {l s : List (Int × Int)} {wd : Int} (h : ¬ ∀ j, j < s.length → wdL l (pt s j).1 (pt s j).2 ≤ wd) : ∃ k, k < s.length ∧ wd < wdL l (pt s k).1 (pt s k).2 ∧ ∀ j, j < k → wdL l (pt s j).1 (pt s j).2 ≤ wd := by
  have hall : ∀ n, n ≤ s.length → (∀ j, j < n → wdL l (pt s j).1 (pt s j).2 ≤ wd) ∨ ∃ k, k < s.length ∧ wd < wdL l (pt s k).1 (pt s k).2 ∧ ∀ j, j < k → wdL l (pt s j).1 (pt s j).2 ≤ wd := by
    intro n
    induction n with
    | zero => exact fun _ => Or.inl (fun j hj => absurd hj (Nat.not_lt_zero _))
    | succ n ih =>
      intro hn
      rcases ih (by omega) with h1 | h1
      · by_cases h2 : wd < wdL l (pt s n).1 (pt s n).2
        · exact Or.inr ⟨n, by omega, h2, h1⟩
        · refine Or.inl (fun j hj => ?_)
          rcases Nat.lt_or_ge j n with h3 | h3
          · exact h1 j h3
          · obtain rfl : j = n := by omega
            omega
      · exact Or.inr h1
  rcases hall s.length (Nat.le_refl _) with h1 | h1
  · exact absurd h1 h
  · exact h1
theorem flS_set (l dk : List (Int × Int)) (i : Nat) (t : Int × Int) (hi : i < dk.length) :
    ((((flS l dk).set (i * 4) (.int .i64 t.1)).set (i * 4 + 1) (.int .i64 t.2)).set (i * 4 + 2) (.int .i64 (loW l t.1 t.2 l.length))).set (i * 4 + 3) (.int .i64 (hiW l t.1 t.2 l.length)) = flS l (dk.set i t) := by
  apply List.ext_getElem?
  intro q
  rcases Nat.lt_or_ge q (dk.length * 4) with hq | hq
  · have hd : q / 4 < dk.length := by omega
    have h1 := flS_get l (dk.set i t) (q / 4) (q % 4) (by rw [List.length_set]; exact hd) (by omega)
    have h2 := flS_get l dk (q / 4) (q % 4) hd (by omega)
    rw [show q / 4 * 4 + q % 4 = q by omega] at h1 h2
    rw [h1]
    simp only [List.getElem?_set, List.length_set, flS_len]
    by_cases hqi : q / 4 = i
    · have hpt : pt (dk.set i t) (q / 4) = t := by
        unfold pt; rw [hqi, List.getElem?_set_self hi]; rfl
      rw [hpt]
      have : q % 4 = 0 ∨ q % 4 = 1 ∨ q % 4 = 2 ∨ q % 4 = 3 := by omega
      rcases this with m | m | m | m <;> rw [m]
      · obtain rfl : q = i * 4 := by omega
        rw [if_neg (by omega), if_neg (by omega), if_neg (by omega), if_pos rfl, if_pos hq]; rfl
      · obtain rfl : q = i * 4 + 1 := by omega
        rw [if_neg (by omega), if_neg (by omega), if_pos rfl, if_pos hq]; rfl
      · obtain rfl : q = i * 4 + 2 := by omega
        rw [if_neg (by omega), if_pos rfl, if_pos hq]; rfl
      · obtain rfl : q = i * 4 + 3 := by omega
        rw [if_pos rfl, if_pos hq]; rfl
    · have hpt : pt (dk.set i t) (q / 4) = pt dk (q / 4) := by
        unfold pt; rw [List.getElem?_set_ne (by omega)]
      rw [hpt, if_neg (by omega), if_neg (by omega), if_neg (by omega), if_neg (by omega)]
      exact h2
  · rw [List.getElem?_eq_none (by simp only [List.length_set, flS_len]; exact hq), List.getElem?_eq_none (by rw [flS_len, List.length_set]; exact hq)]
theorem rowP_set {w : World} {base g cap : Nat} {l dk : List (Int × Int)} (h : RowP w base (.slice (some ⟨g, 0, none⟩) dk.length cap) l dk) {i : Nat} (hi : i < dk.length) (t : Int × Int) :
    RowP ((((w.setCell ⟨g, i * 4, none⟩ (.int .i64 t.1)).setCell ⟨g, i * 4 + 1, none⟩ (.int .i64 t.2)).setCell ⟨g, i * 4 + 2, none⟩ (.int .i64 (loW l t.1 t.2 l.length))).setCell ⟨g, i * 4 + 3, none⟩ (.int .i64 (hiW l t.1 t.2 l.length))) base (.slice (some ⟨g, 0, none⟩) dk.length cap) l (dk.set i t) := by
  unfold RowP
  rw [List.length_set, ← flS_set l dk i t hi]
  exact (World.ownsRow.stored (World.ownsRow.stored (World.ownsRow.stored (World.ownsRow.stored h _ _).1 _ _).1 _ _).1 _ _).1
theorem own_cut {w : World} {base g cap n size : Nat} {e : TypeId} {xs : List Value} (h : w.ownsRow base e size (.slice (some ⟨g, 0, none⟩) n cap) n xs) {i : Nat} (hi : i ≤ n) : w.ownsRow base e size (.slice (some ⟨g, 0, none⟩) i cap) i (xs.take (i * size)) := by
  have hm : i * size ≤ n * size := Nat.mul_le_mul_right _ hi
  refine ⟨by rw [List.length_take, h.1]; omega, .inr ?_⟩
  rcases h.2 with ⟨hv, _⟩ | ⟨g', cap', cur, hv, hg, hh, hc, hm', hs, ht⟩
  · simp at hv
  · simp only [Value.slice.injEq, Option.some.injEq, Addr.mk.injEq, and_true, true_and] at hv
    obtain ⟨rfl, rfl⟩ := hv
    refine ⟨g, cap, cur, rfl, hg, hh, by omega, hm', hs, ?_⟩
    rw [← ht, List.take_take, Nat.min_eq_left hm]
theorem flS_take (l s : List (Int × Int)) (i : Nat) : (flS l s).take (i * 4) = flS l (s.take i) := by
  apply List.ext_getElem?
  intro q
  rw [List.getElem?_take]
  by_cases hq : q < i * 4
  · rw [if_pos hq]
    rcases Nat.lt_or_ge q (s.length * 4) with h | h
    · have h1 := flS_get l s (q / 4) (q % 4) (by omega) (by omega)
      have h2 := flS_get l (s.take i) (q / 4) (q % 4) (by rw [List.length_take]; omega) (by omega)
      rw [show q / 4 * 4 + q % 4 = q by omega] at h1 h2
      rw [h1, h2]
      congr 2
      unfold pt
      rw [List.getElem?_take, if_pos (by omega)]
    · rw [List.getElem?_eq_none (by rw [flS_len]; exact h), List.getElem?_eq_none (by rw [flS_len, List.length_take]; omega)]
  · rw [if_neg hq, List.getElem?_eq_none (by rw [flS_len, List.length_take]; omega)]
/-- a row of which the cells behind number o are set anew -/
theorem own_setCells {base g cap n size : Nat} {e : TypeId} (o0 : Nat) : ∀ (vs : List Value) (o : Nat) (w : World) (xs : List Value), o0 ≤ o → w.ownsRow base e size (.slice (some ⟨g, 0, none⟩) n cap) n xs →
    ∃ xs', (w.setCells g o vs).ownsRow base e size (.slice (some ⟨g, 0, none⟩) n cap) n xs' ∧ xs'.take o0 = xs.take o0
  | [], _, _, xs, _, h => ⟨xs, h, rfl⟩
  | v :: r, o, w, xs, ho, h => by
    obtain ⟨xs', h1, h2⟩ := own_setCells o0 r (o + 1) _ _ (by omega) (World.ownsRow.stored h o v).1
    exact ⟨xs', h1, by rw [h2, List.take_set_of_le ho]⟩
theorem below_setCells {b g : Nat} {w : World} (hg : b ≤ g) : ∀ (vs : List Value) (o : Nat) (W : World), Below b w W → Below b w (W.setCells g o vs)
  | [], _, _, h => h
  | v :: r, o, W, h => below_setCells hg r (o + 1) _ (Below.setCell h hg _)
/-- 'clear' of a slice of elements of several cells -/
theorem run_clear_K {P : Program} (w : World) (t e ty : TypeId) (z : Value) (ht : P.underlying t = some (.slice e)) (hv : ∀ w, (zeroValue e).run P w = .ok z w) (h1 : ∀ v ∈ z.cells, v.oneCell' = true) (hz0 : 0 < z.cells.size) (b o n c : Nat) (hn : 0 < n)
    (hc : ∀ j, j < n * z.cells.size → (w.cell? ⟨b, o + j, none⟩).isSome = true) (hf : ∀ j, j < n * z.cells.size → w.frozen? ⟨b, o + j, none⟩ = false) :
    (Builtin.clear_ #[t] ty #[.slice (some ⟨b, o, none⟩) n c]).run P w = .ok (.tuple #[]) (w.setCells b o (Builtin.zeroCells z.cells n).toList) := by
  have hl : (Builtin.zeroCells z.cells n).toList.length = n * z.cells.size := by simp [Builtin.zeroCells]
  have hst := run_storeCells_cells (P := P) b o (Builtin.zeroCells z.cells n).toList 0 w (by rw [hl]; simpa using hc) (by rw [hl]; simpa using hf) (by
    intro v hv'
    simp only [Builtin.zeroCells, Array.toList_map, List.mem_map] at hv'
    obtain ⟨i, _, rfl⟩ := hv'
    have hm : i % z.cells.size < z.cells.size := Nat.mod_lt _ hz0
    rw [getElem!_pos z.cells _ hm]
    exact h1 _ (Array.getElem_mem hm))
  simp only [Nat.add_zero] at hst
  obtain ⟨m, rfl⟩ : ∃ m, n = m + 1 := ⟨n - 1, by omega⟩
  simp [Builtin.clear_, run_underlying ht, hv, hst]
end Go.Proofs.Ytheddoinnakneaa
/- contract: the program's own slices.DeleteFunc of spans -/
namespace Go.Proofs.Ytheddoinnakneaa
open Go.ChangeShapes Go.WideShapes Go.ChangeAt Go.RowKit Go.Joins
set_option linter.unusedVariables false
set_option linter.unusedSimpArgs false
set_option maxRecDepth 4000
set_option maxRecDepth 100000 in
set_option maxHeartbeats 8000000 in
theorem deleteF_any (base g cap gw : Nat) (wd : Int) (l s : List (Int × Int)) (w : World) (h : RowP w base (.slice (some ⟨g, 0, none⟩) s.length cap) l s) (hs : ∀ i, i < s.length → Sml l (pt s i)) (hlen : s.length ≤ 1000000) (hz : gw < w.heap.size) (hne : gw ≠ g) (hc : w.cell? ⟨gw, 0, none⟩ = some (.int .i64 wd)) :
    Calls Try.prog 91 #[.slice (some ⟨g, 0, none⟩) s.length cap, .func (.func 92) #[] #[.pointer (some ⟨gw, 0, none⟩)]] w fun e w' =>
      (∃ v, e = .returned v ∧ RowP w' base v l (s.filter fun t => decide (wdL l t.1 t.2 ≤ wd))) ∧ Below g w w' := by
  have hlt : g < w.heap.size := (World.ownsRow.lt h g rfl).2
  have hbg : base ≤ g := (World.ownsRow.lt h g rfl).1
  have hncap : s.length ≤ cap := by
    rcases own_val h with ⟨hv, _⟩ | ⟨_, _, hv, h1, _⟩
    · simp at hv
    · simp only [Value.slice.injEq, Option.some.injEq, Addr.mk.injEq, and_true, true_and] at hv
      rw [hv.2]; exact h1
  have KX := Lib.hid (indexF_any base g cap gw wd l s w h hs hlen hz hc)
  have HH := Lib.hid h
  obtain ⟨p, hp⟩ : ∃ p : Int × Int → Bool, p = fun t => decide (wdL l t.1 t.2 ≤ wd) := ⟨_, rfl⟩
  have HP : Hid (∀ t, p t = decide (wdL l t.1 t.2 ≤ wd)) := Lib.hid (by rw [hp]; exact fun _ => rfl)
  rw [← hp]
  clear hp h
  by_cases hall : ∀ j, j < s.length → wdL l (pt s j).1 (pt s j).2 ≤ wd
  · have hf : s.filter p = s := by
      rw [List.filter_eq_self]
      intro a ha
      obtain ⟨i, hi⟩ := List.mem_iff_getElem?.1 ha
      have hil : i < s.length := by
        rcases Nat.lt_or_ge i s.length with h | h
        · exact h
        · rw [List.getElem?_eq_none h] at hi; cases hi
      rw [pt_get hil] at hi
      injection hi with hi
      rw [← hi, HP.out]
      exact decide_eq_true (hall i hil)
    have KX2 : Hid (Calls Try.prog 126 #[.slice (some ⟨g, 0, none⟩) s.length cap, .func (.func 92) #[] #[.pointer (some ⟨gw, 0, none⟩)]] w fun e w' => e = .returned (.int .i64 (-1)) ∧ Below w.heap.size w w') := Lib.hid (KX.out.mono (by
      rintro e w' ⟨h1, h2⟩
      rcases h1 with ⟨k, _, h3, h4, _⟩ | ⟨h3, _⟩
      · have := hall k h3; omega
      · exact ⟨h3, h2⟩))
    rw [hf]
    clear KX hall hf HP hs
    generalize hN : s.length = n at *
    have HN := Lib.hid hN
    clear hN
    go_enter Try.func91, Try.ntmps91
    go_wp2_with fail
    refine KX2.out.mono ?_; rintro e w2 ⟨rfl, hb2⟩
    go_wp2_with fail
    go_ret
    exact ⟨⟨_, rfl, rowP_below HH.out hb2 (Nat.le_refl _)⟩, hb2.mono (by omega)⟩
  · have KX2 : Hid (∃ k0 : Nat, (k0 < s.length ∧ p (pt s k0) = false ∧ ∀ j, j < k0 → p (pt s j) = true) ∧ Calls Try.prog 126 #[.slice (some ⟨g, 0, none⟩) s.length cap, .func (.func 92) #[] #[.pointer (some ⟨gw, 0, none⟩)]] w fun e w' => e = .returned (.int .i64 (k0 : Int)) ∧ Below w.heap.size w w') := Lib.hid (by
      obtain ⟨k0, hk0, hk1, hk2⟩ := first_wide hall
      refine ⟨k0, ⟨hk0, by rw [HP.out]; exact decide_eq_false (by omega), fun j hj => by rw [HP.out]; exact decide_eq_true (hk2 j hj)⟩, KX.out.mono ?_⟩
      rintro e w' ⟨h1, h2⟩
      rcases h1 with ⟨k, h3, h4, h5, h6⟩ | ⟨_, h3⟩
      · have : k = k0 := by
          rcases Nat.lt_trichotomy k k0 with h | h | h
          · have := hk2 k h; omega
          · exact h
          · have := h6 k0 h; omega
        rw [this] at h3
        exact ⟨h3, h2⟩
      · exact absurd (h3 k0 hk0) (by omega))
    obtain ⟨k0, ⟨hk0, hp0, hpa⟩, K0⟩ := KX2.out
    have HK0 := Lib.hid K0
    have HI0 := Lib.hid (ki_start hk0 hp0 hpa)
    have KD := Lib.hid (fun i (hi : i < s.length) W (hzW : gw < W.heap.size) (hcW : W.cell? ⟨gw, 0, none⟩ = some (.int .i64 wd)) => wideF_any (pt s i).1 (pt s i).2 (loW l (pt s i).1 (pt s i).2 l.length) (hiW l (pt s i).1 (pt s i).2 l.length) wd gw W (hs i hi).1 (hs i hi).2.1 (hs i hi).2.2.1 (hs i hi).2.2.2 hzW hcW)
    have HWd : Hid (∀ t : Int × Int, decide (wd < hiW l t.1 t.2 l.length - loW l t.1 t.2 l.length) = !p t) := Lib.hid (fun t => by
      rw [HP.out]
      show decide (wd < wdL l t.1 t.2) = _
      by_cases h : wd < wdL l t.1 t.2
      · rw [decide_eq_true h, decide_eq_false (by omega)]; rfl
      · rw [decide_eq_false h, decide_eq_true (by omega)]; rfl)
    have HFL : Hid (s.filter p = (s.take s.length).filter p) := Lib.hid (by rw [List.take_length])
    have HKS := Lib.hid (fun j dk (hI : KI p s j dk) (hj : j < s.length) hp => ki_skip hI hj hp)
    have HKK := Lib.hid (fun j dk (hI : KI p s j dk) (hj : j < s.length) hp => ki_keep hI hj hp)
    have HFE := Lib.hid (fun j (hj : j ≤ s.length) => filt_le p s j hj)
    have HLT : Hid (∀ j dk, k0 < j → KI p s j dk → j ≤ s.length → ((s.take j).filter p).length < j) := Lib.hid (fun j dk h1 hI hj => filt_lt hk0 hp0 h1 hj)
    obtain ⟨fl, hfl⟩ : ∃ fl : Nat → Nat, fl = fun j => ((s.take j).filter p).length := ⟨_, rfl⟩
    have HFl : Hid (∀ j, ((s.take j).filter p).length = fl j) := Lib.hid (fun j => by rw [hfl])
    clear KX KX2 K0 hpa hp0 hall hs hfl HP
    generalize hN : s.length = n at *
    have HN := Lib.hid hN
    clear hN
    have hq : IntKind.i64.wrap ((k0 : Int) + 1) = (k0 : Int) + 1 := IntWalk.i64_in _ (by omega)
    go_enter Try.func91, Try.ntmps91
    go_wp2_with fail
    refine HK0.out.mono ?_; rintro e w2 ⟨rfl, hb2⟩
    have R2 := Lib.hid (rowP_below HH.out hb2 (Nat.le_refl _))
    have C2 := Lib.hid (((bcell hb2).1 _ 0 hz).trans hc)
    have Z2 := Nat.lt_of_lt_of_le hz hb2.size
    have B2 := hb2.mono (show g ≤ w.heap.size by omega)
    have hn1 : ¬ (k0 : Int) = -1 := by omega
    clear hc hz hb2 HH HK0
    go_wp2_with fail
    clear hq
    go_loopg [5, 6] (n - (k0 + 1)) (fun gg s5 s6 wr => ∃ (j : Nat) (dk : List (Int × Int)), s5 = .int .i64 (fl j : Int) ∧ s6 = .int .i64 (j : Int) ∧ k0 < j ∧ j ≤ n ∧ gg = n - j ∧ Below g w wr ∧ Hid (KI p s j dk) ∧ Hid (RowP wr base (.slice (some ⟨g, 0, none⟩) n cap) l dk) ∧ gw < wr.heap.size ∧ Hid (wr.cell? ⟨gw, 0, none⟩ = some (.int .i64 wd)))
    case atStart => exact ⟨k0 + 1, s, by rw [← HFl.out, HI0.out.2], by go_num, by omega, by omega, rfl, B2, Lib.hid HI0.out.1, R2, Z2, C2⟩
    case round =>
      clear B2 R2 Z2 C2
      obtain ⟨j, dk, rfl, rfl, hkj, hjn, hgg, hB, HI, HR, hZ, HC⟩ := hrel
      rename World => wo
      have HGJ := Lib.hid hgg
      clear hgg
      have hdl : dk.length = n := by rw [HI.out.len]; exact HN.out
      have HDL := Lib.hid hdl
      have hr0 : RowP wo base (.slice (some ⟨g, 0, none⟩) dk.length cap) l dk := by rw [hdl]; exact HR.out
      have HR0 := Lib.hid hr0
      have hfj : fl j < j := by rw [← HFl.out]; exact HLT.out j dk hkj HI.out hjn
      have hzg : g < wo.heap.size := (World.ownsRow.lt hr0 g rfl).2
      have hfi : fl j < n := by omega
      have hfr : ∀ o, wo.frozen? ⟨g, o, none⟩ = false := fun o => World.ownsRow.frozenAt hr0 o
      have HFR := Lib.hid hfr
      obtain ⟨i0, i1, i2, i3⟩ := rowP_at hr0 (i := fl j) (by omega)
      have HI4 := Lib.hid (And.intro i0 (And.intro i1 (And.intro i2 i3)))
      clear i0 i1 i2 i3 hr0
      by_cases hlt : j < n
      · have hpj : pt dk j = pt s j := by unfold pt; rw [HI.out.suf j (Nat.le_refl _)]
        obtain ⟨c0, c1, c2, c3⟩ := rowP_at HR0.out (i := j) (by omega)
        rw [hpj] at c0 c1 c2 c3
        have KD1 := Lib.hid (KD.out j hlt)
        have hwd := HWd.out (pt s j)
        have HS1 := Lib.hid (HKS.out j dk HI.out hlt)
        have HK1 := Lib.hid (HKK.out j dk HI.out hlt)
        have HSR : Hid (∀ W : World, RowP W base (.slice (some ⟨g, 0, none⟩) dk.length cap) l dk → RowP ((((W.setCell ⟨g, fl j * 4, none⟩ (.int .i64 (pt s j).1)).setCell ⟨g, fl j * 4 + 1, none⟩ (.int .i64 (pt s j).2)).setCell ⟨g, fl j * 4 + 2, none⟩ (.int .i64 (loW l (pt s j).1 (pt s j).2 l.length))).setCell ⟨g, fl j * 4 + 3, none⟩ (.int .i64 (hiW l (pt s j).1 (pt s j).2 l.length))) base (.slice (some ⟨g, 0, none⟩) dk.length cap) l (dk.set (fl j) (pt s j))) := Lib.hid (fun W hW => rowP_set hW (by omega) (pt s j))
        clear hpj
        rw [HFl.out, HFl.out] at HS1 HK1
        generalize p (pt s j) = pj at *
        generalize loW l (pt s j).1 (pt s j).2 l.length = lo at *
        generalize hiW l (pt s j).1 (pt s j).2 l.length = hi at *
        have HPJ : Hid (pt s j = pt s j) := Lib.hid rfl
        generalize pt s j = tj at *
        obtain ⟨u, v⟩ := tj
        try simp only at c0 c1 c2 c3 KD1 HSR
        rw [hwd] at KD1
        clear hwd HPJ
        cases pj
        · have HS2 := Lib.hid (HS1.out rfl)
          clear HS1 HK1
          go_wp2_with fail
          obtain ⟨W1, hW1⟩ : ∃ W1, W1 = (wo.alloc (.cells #[.int .i64 u, .int .i64 v, .int .i64 lo, .int .i64 hi] 68)) := ⟨_, rfl⟩
          rw [← hW1]
          have yW10_0 : W1.cell? ⟨wo.heap.size, 0, none⟩ = some (.int .i64 u) := by rw [hW1]; go_simp
          have yW10_1 : W1.cell? ⟨wo.heap.size, 1, none⟩ = some (.int .i64 v) := by rw [hW1]; go_simp
          have yW10_2 : W1.cell? ⟨wo.heap.size, 2, none⟩ = some (.int .i64 lo) := by rw [hW1]; go_simp
          have yW10_3 : W1.cell? ⟨wo.heap.size, 3, none⟩ = some (.int .i64 hi) := by rw [hW1]; go_simp
          have fW10 : ∀ o, W1.frozen? ⟨wo.heap.size, o, none⟩ = false := by intro o; rw [hW1]; (repeat rw [frozen?_alloc_cells]); simp [World.frozen?]
          have zW10 : wo.heap.size < W1.heap.size := by rw [hW1]; simp <;> omega
          have BW1 : Below wo.heap.size wo W1 := by rw [hW1]; exact (Below.alloc (Below.refl _ _) (by simp <;> omega) _)
          have eW1 : Hid (W1.heap.size = wo.heap.size + 1) := Lib.hid (by rw [hW1]; simp)
          clear hW1
          have cw := ((bcell BW1).1 _ 0 hZ).trans HC.out
          have zw := Nat.lt_of_lt_of_le hZ BW1.size
          refine (KD1.out _ zw cw).mono ?_; rintro e w3 ⟨rfl, hb3⟩
          have R3 := Lib.hid (rowP_below (rowP_below HR.out BW1 (Nat.le_refl _)) hb3 (Nat.le_refl _))
          have C3 := Lib.hid (((bcell hb3).1 _ 0 zw).trans cw)
          have Z3 := Nat.lt_of_lt_of_le zw hb3.size
          have B3 := (hB.trans (BW1.mono (by omega))).trans (hb3.mono (by have := BW1.size; omega))
          clear cw zw hb3 BW1 yW10_0 yW10_1 yW10_2 yW10_3 zW10 fW10 c0 c1 c2 c3 eW1
          go_wp2_with fail
          go_roundg (n - (j + 1))
          case measure => have := HGJ.out; omega
          case rel => exact ⟨j + 1, dk, by rw [HS2.out.2], by go_num, by omega, by omega, rfl, B3, Lib.hid HS2.out.1, R3, Z3, C3⟩
        · have HS2 := Lib.hid (HK1.out rfl)
          clear HS1 HK1
          go_wp2_with fail
          obtain ⟨W1, hW1⟩ : ∃ W1, W1 = (wo.alloc (.cells #[.int .i64 u, .int .i64 v, .int .i64 lo, .int .i64 hi] 68)) := ⟨_, rfl⟩
          rw [← hW1]
          have yW10_0 : W1.cell? ⟨wo.heap.size, 0, none⟩ = some (.int .i64 u) := by rw [hW1]; go_simp
          have yW10_1 : W1.cell? ⟨wo.heap.size, 1, none⟩ = some (.int .i64 v) := by rw [hW1]; go_simp
          have yW10_2 : W1.cell? ⟨wo.heap.size, 2, none⟩ = some (.int .i64 lo) := by rw [hW1]; go_simp
          have yW10_3 : W1.cell? ⟨wo.heap.size, 3, none⟩ = some (.int .i64 hi) := by rw [hW1]; go_simp
          have fW10 : ∀ o, W1.frozen? ⟨wo.heap.size, o, none⟩ = false := by intro o; rw [hW1]; (repeat rw [frozen?_alloc_cells]); simp [World.frozen?]
          have zW10 : wo.heap.size < W1.heap.size := by rw [hW1]; simp <;> omega
          have BW1 : Below wo.heap.size wo W1 := by rw [hW1]; exact (Below.alloc (Below.refl _ _) (by simp <;> omega) _)
          have eW1 : Hid (W1.heap.size = wo.heap.size + 1) := Lib.hid (by rw [hW1]; simp)
          clear hW1
          have cw := ((bcell BW1).1 _ 0 hZ).trans HC.out
          have zw := Nat.lt_of_lt_of_le hZ BW1.size
          refine (KD1.out _ zw cw).mono ?_; rintro e w3 ⟨rfl, hb3⟩
          have R3 := Lib.hid (rowP_below (rowP_below HR0.out BW1 (Nat.le_refl _)) hb3 (Nat.le_refl _))
          have C3 := Lib.hid (((bcell hb3).1 _ 0 zw).trans cw)
          have Z3 := Nat.lt_of_lt_of_le zw hb3.size
          have B3 := (hB.trans (BW1.mono (by omega))).trans (hb3.mono (by have := BW1.size; omega))
          have x0 := ((bcell hb3).1 _ 0 zW10).trans yW10_0
          have x1 := ((bcell hb3).1 _ 1 zW10).trans yW10_1
          have x2 := ((bcell hb3).1 _ 2 zW10).trans yW10_2
          have x3 := ((bcell hb3).1 _ 3 zW10).trans yW10_3
          have xz := Nat.lt_of_lt_of_le zW10 hb3.size
          clear cw zw hb3 BW1 yW10_0 yW10_1 yW10_2 yW10_3 zW10 fW10 c0 c1 c2 c3 eW1
          obtain ⟨i0, i1, i2, i3⟩ := rowP_at R3.out (i := fl j) (by omega)
          have f0 := World.ownsRow.frozenAt R3.out (fl j * 4)
          have f1 := World.ownsRow.frozenAt R3.out (fl j * 4 + 1)
          have f2 := World.ownsRow.frozenAt R3.out (fl j * 4 + 2)
          have f3 := World.ownsRow.frozenAt R3.out (fl j * 4 + 3)
          have zg3 := (World.ownsRow.lt R3.out g rfl).2
          clear hdl
          go_wp2_with fail
          have R4 := Lib.hid (HSR.out _ R3.out)
          obtain ⟨W4, hW4⟩ : ∃ W4, W4 = ((((w3.setCell ⟨g, fl j * 4, none⟩ (.int .i64 u)).setCell ⟨g, fl j * 4 + 1, none⟩ (.int .i64 v)).setCell ⟨g, fl j * 4 + 2, none⟩ (.int .i64 lo)).setCell ⟨g, fl j * 4 + 3, none⟩ (.int .i64 hi)) := ⟨_, rfl⟩
          rw [← hW4] at R4 ⊢
          have B4 : Below g w W4 := by rw [hW4]; exact ((((B3.setCell (Nat.le_refl _) _).setCell (Nat.le_refl _) _).setCell (Nat.le_refl _) _).setCell (Nat.le_refl _) _)
          have C4 : Hid (W4.cell? ⟨gw, 0, none⟩ = some (.int .i64 wd)) := Lib.hid (by
            rw [hW4]
            rw [World.cell?_setCell_other _ _ _ _ (fun e => hne (by injection e with e1 e2; exact e1.symm)), World.cell?_setCell_other _ _ _ _ (fun e => hne (by injection e with e1 e2; exact e1.symm)), World.cell?_setCell_other _ _ _ _ (fun e => hne (by injection e with e1 e2; exact e1.symm)), World.cell?_setCell_other _ _ _ _ (fun e => hne (by injection e with e1 e2; exact e1.symm))]
            exact C3.out)
          have Z4 : gw < W4.heap.size := by rw [hW4]; simpa [World.setCell] using Z3
          go_roundg (n - (j + 1))
          case measure => have := HGJ.out; omega
          case rel => exact ⟨j + 1, dk.set (fl j) (u, v), by rw [HS2.out.2]; go_num, by go_num, by omega, by omega, rfl, B4, Lib.hid HS2.out.1, Lib.hid (by rw [← HDL.out]; exact R4.out), Z4, C4⟩
      · obtain rfl : j = n := by omega
        have hlt2 : fl j < j := hfj
        have hn0 : 0 < j - fl j := by omega
        have hcells : ∀ q, q < (j - fl j) * 4 → (wo.cell? ⟨g, fl j * 4 + q, none⟩).isSome = true := fun q hq => by
          have h1 := World.ownsRow.cellAt HR0.out (fl j * 4 + q) (by rw [hdl]; omega)
          rw [h1, flS_at l dk _ (by rw [hdl]; omega)]
          rfl
        have hcl : ∀ ty, (Builtin.clear_ #[69] ty #[.slice (some ⟨g, fl j * 4, none⟩) (j - fl j) (cap - fl j)]).run Try.prog wo = .ok (.tuple #[]) (wo.setCells g (fl j * 4) (Builtin.zeroCells (Value.agg #[.int .i64 0, .int .i64 0, .int .i64 0, .int .i64 0]).cells (j - fl j)).toList) :=
          fun ty => run_clear_K wo _ _ ty _ Try.underlying69 Try.zeroValue68 (by intro v hv; simp [Value.cells] at hv; subst hv; rfl) (by decide) g (fl j * 4) _ _ hn0 hcells (fun q hq => hfr _)
        have HE : Hid (∀ vs, RowP (wo.setCells g (fl j * 4) vs) base (.slice (some ⟨g, 0, none⟩) (fl j) cap) l (s.filter p)) := Lib.hid (fun vs => by
          obtain ⟨xs', h1, h2⟩ := own_setCells (fl j * 4) vs (fl j * 4) wo (flS l dk) (Nat.le_refl _) HR0.out
          have h3 := own_cut h1 (i := fl j) (by omega)
          rw [h2, flS_take] at h3
          have h4 := HI.out.pre
          rw [HFl.out] at h4
          rw [h4] at h3
          have h5 : (s.filter p).length = fl j := by rw [HFL.out, HFl.out]
          unfold RowP
          rw [h5, HFL.out]
          exact h3)
        have hic : (fl j : Int) ≤ (j : Int) := by omega
        have hic2 : fl j ≤ cap := by omega
        have hic3 : ¬ cap = fl j := by omega
        have BE := Lib.hid (fun vs => below_setCells (Nat.le_refl g) vs (fl j * 4) wo hB)
        clear HR HR0 HI4 HFR hfr hcells hdl HI
        generalize (Builtin.zeroCells (Value.agg #[.int .i64 0, .int .i64 0, .int .i64 0, .int .i64 0]).cells (j - fl j)).toList = zs at *
        go_wp2_with fail
        go_ret
        exact ⟨⟨_, rfl, HE.out _⟩, BE.out _⟩
end Go.Proofs.Ytheddoinnakneaa
/- contracts: wiLeast, the model -/
namespace Go.Proofs.Ytheddoinnakneaa
open Go.ChangeShapes Go.WideShapes Go.ChangeAt Go.RowKit Go.Joins
set_option linter.unusedVariables false
set_option linter.unusedSimpArgs false
set_option maxRecDepth 4000
theorem rowM_base {w : World} {base base' : Nat} {v : Value} {m : List (Int × Int)} (h : RowM w base v m) (hb : base' ≤ base) : RowM w base' v m := by
  obtain ⟨q, h1, h2⟩ := h
  exact ⟨q, own_baseM h1 hb, prM_base h2 hb⟩
theorem wiLeast_any (A : Option Addr) (c : Nat) (l : List (Int × Int)) (m : Nat) (w : World) (h1 : 1 ≤ m) (h2 : m ≤ 80) (hm : 0 < (dirG l m).length) (hl : ∀ i, 1 ≤ i → i < m → (dirG l i).length = 0) (hg : Good l) (hR : Rd w w.heap.size A l) :
    Calls Try.prog 53 #[.slice A l.length c] w fun e w' => (∃ v, e = .returned (.tuple #[.int .i64 (m : Int), v]) ∧ RowM w' w.heap.size v (dirG l m)) ∧ Below w.heap.size w w' := by
  have K2 := Lib.hid (fun W i (hi : i ≤ 80) (hb : Below w.heap.size w W) => wiAll_any A c l i W hi hg (rd_more (rd_below hR hb (Nat.le_refl _)) hb.size))
  change Hid (∀ W (i : Nat), i ≤ 80 → Below w.heap.size w W → Calls Try.prog 59 #[.slice A l.length c, .int .i64 (i : Int)] W fun e w' => (∃ v, e = .returned v ∧ RowM w' W.heap.size v (dirG l i)) ∧ Below W.heap.size W w') at K2
  have HL := Lib.hid hl
  generalize dirG l = dg at *
  clear hl hg hR
  go_enter Try.func53, Try.ntmps53
  go_wp2_with fail
  go_loopg [4] (m - 1) (fun g q wr => ∃ i : Nat, 1 ≤ i ∧ i ≤ m ∧ g = m - i ∧ q = .int .i64 (i : Int) ∧ Below w.heap.size w wr)
  case atStart => exact ⟨1, Nat.le_refl _, h1, rfl, rfl, Below.refl _ _⟩
  case round =>
    obtain ⟨i, hi1, him, hgi, rfl, hB⟩ := hrel
    rename World => wr
    have HGI := Lib.hid hgi
    clear hgi
    have K3 := Lib.hid (K2.out wr i (by omega) hB)
    by_cases hlt : i < m
    · have h0 := HL.out i hi1 hlt
      go_wp2_with fail
      refine K3.out.mono ?_; rintro e w2 ⟨⟨v, rfl, hrv⟩, hb2⟩
      obtain ⟨A2, c2, rfl, _⟩ := rowM_val hrv
      have B2 := hB.trans (hb2.mono hB.size)
      rw [h0]
      clear hrv hb2 hB K3 h0
      go_wp2_with fail
      go_roundg (m - (i + 1))
      case measure => have := HGI.out; omega
      case rel => exact ⟨i + 1, by omega, by omega, rfl, by first | go_num | (congr 1; omega), B2⟩
    · obtain rfl : i = m := by omega
      have h0 : (0 : Int) < ((dg i).length : Int) := by omega
      go_wp2_with fail
      refine K3.out.mono ?_; rintro e w2 ⟨⟨v, rfl, hrv⟩, hb2⟩
      obtain ⟨A2, c2, rfl, hr⟩ := rowM_val hrv
      have B2 := hB.trans (hb2.mono hB.size)
      have HR := Lib.hid (rowM_base hr hB.size)
      clear hrv hr hb2 K3
      go_wp2_with fail
      go_ret2
      exact ⟨⟨_, rfl, HR.out⟩, B2⟩
end Go.Proofs.Ytheddoinnakneaa
/- contracts: LeastWidth, DirectionsOfWidth, the model -/
namespace Go.Proofs.Ytheddoinnakneaa
open Go.ChangeShapes Go.WideShapes Go.ChangeAt Go.RowKit Go.Joins
set_option linter.unusedVariables false
set_option linter.unusedSimpArgs false
set_option maxRecDepth 4000
theorem lohi_in {l : List (Int × Int)} (hp : ∀ i, i < l.length → isPg (vx l i) = true) (h0 : 0 < l.length) : ∀ k, k ≤ l.length → -40 ≤ loW l 1 0 k ∧ hiW l 1 0 k ≤ 40 := by
  have hb : ∀ i, i < l.length → -40 ≤ vlu 1 0 (vx l i) ∧ vlu 1 0 (vx l i) ≤ 40 := fun i hi => by
    have := hp i hi
    unfold isPg isPegB at this
    simp only [Bool.and_eq_true, decide_eq_true_eq] at this
    unfold vlu
    omega
  intro k
  induction k with
  | zero =>
    intro _
    have := hb 0 h0
    simp only [loW, hiW]
    omega
  | succ k ih =>
    intro hk
    have := hb k (by omega)
    have := ih (by omega)
    simp only [loW, hiW]
    omega
theorem wd_box {l : List (Int × Int)} (hg : Good l) : wdL l 1 0 ≤ 80 := by
  have := lohi_in hg.pegs (by have := hg.few; omega) l.length (Nat.le_refl _)
  unfold wdL
  omega
/-- the least width of a polygon -/
noncomputable def wlG (l : List (Int × Int)) : Nat := (wlI (wdL l) (subP (vx l 1) (vx l 0)) (subP (vx l 2) (vx l 0)) 80).toNat
theorem wlG_facts {l : List (Int × Int)} (hg : Good l) : 1 ≤ wlG l ∧ wlG l ≤ 80 ∧ 0 < (dirG l (wlG l)).length ∧ ∀ i, 1 ≤ i → i < wlG l → (dirG l i).length = 0 := by
  obtain ⟨f1, f2, f3, f4, f5⟩ := wl_facts (base_model hg) (M := 80) (box_told (Or.inl (wd_box hg)))
  have e : (wlG l : Int) = wlI (wdL l) (subP (vx l 1) (vx l 0)) (subP (vx l 2) (vx l 0)) 80 := by unfold wlG; omega
  refine ⟨by omega, by omega, (f4 _).2 (by omega), fun i h1 h2 => ?_⟩
  rcases Nat.eq_zero_or_pos (dirG l i).length with h | h
  · exact h
  · have := (f4 i).1 h
    omega
noncomputable def lwS (l : List (Int × Int)) : Int := if goodB l = true then (wlG l : Int) else 0
noncomputable def dwS (l : List (Int × Int)) : List (Int × Int) := if goodB l = true then dirG l (wlG l) else []
theorem specLeastWidth_any (A : Option Addr) (c : Nat) (l : List (Int × Int)) (w : World) (hn : l.length ≤ 1048576) (hcap : l.length ≤ c) (hc2 : c ≤ 9223372036854775807) (hR : Rd w w.heap.size A l) :
    Calls Try.prog 16 #[.slice A l.length c] w fun e w' => e = .returned (.tuple #[.int .i64 (lwS l), .bool (goodB l)]) ∧ Below w.heap.size w w' := by
  have K := Lib.hid (pgGood_any A c l w hn hcap hc2 hR)
  by_cases hg : goodB l = true
  · have hgg : Good l := by unfold goodB at hg; simpa using hg
    obtain ⟨f1, f2, f3, f4⟩ := wlG_facts hgg
    have K2 := Lib.hid (fun W (hb : Below w.heap.size w W) => wiLeast_any A c l (wlG l) W f1 f2 f3 f4 hgg (rd_more (rd_below hR hb (Nat.le_refl _)) hb.size))
    have hlw : lwS l = (wlG l : Int) := by unfold lwS; rw [if_pos hg]
    rw [hlw, hg]
    rw [hg] at K
    generalize dirG l (wlG l) = dg at *
    generalize wlG l = m at *
    clear hlw hg hgg f1 f2 f3 f4 hR
    go_enter Try.func16, Try.ntmps16
    go_wp2_with fail
    refine K.out.mono ?_; rintro e w1 ⟨rfl, hb1⟩
    go_wp2_with fail
    refine (K2.out _ hb1).mono ?_; rintro e w2 ⟨⟨v, rfl, hrv⟩, hb2⟩
    clear hrv
    go_wp2_with fail
    go_ret2
    exact ⟨rfl, hb1.trans (hb2.mono hb1.size)⟩
  · have hgf : goodB l = false := by simpa using hg
    have hlw : lwS l = 0 := by unfold lwS; rw [hgf]; rfl
    rw [hlw, hgf]
    rw [hgf] at K
    clear hlw hg hgf hR
    go_enter Try.func16, Try.ntmps16
    go_wp2_with fail
    refine K.out.mono ?_; rintro e w1 ⟨rfl, hb1⟩
    go_wp2_with fail
    go_ret2
    exact ⟨rfl, hb1⟩
theorem specDirectionsOfWidth_any (A : Option Addr) (c : Nat) (l : List (Int × Int)) (w : World) (hn : l.length ≤ 1048576) (hcap : l.length ≤ c) (hc2 : c ≤ 9223372036854775807) (hR : Rd w w.heap.size A l) :
    Calls Try.prog 20 #[.slice A l.length c] w fun e w' => (∃ v, e = .returned (.tuple #[v, .bool (goodB l)]) ∧ RowM w' w.heap.size v (dwS l)) ∧ Below w.heap.size w w' := by
  have K := Lib.hid (pgGood_any A c l w hn hcap hc2 hR)
  by_cases hg : goodB l = true
  · have hgg : Good l := by unfold goodB at hg; simpa using hg
    obtain ⟨f1, f2, f3, f4⟩ := wlG_facts hgg
    have K2 := Lib.hid (fun W (hb : Below w.heap.size w W) => wiLeast_any A c l (wlG l) W f1 f2 f3 f4 hgg (rd_more (rd_below hR hb (Nat.le_refl _)) hb.size))
    have hlw : dwS l = dirG l (wlG l) := by unfold dwS; rw [if_pos hg]
    rw [hlw, hg]
    rw [hg] at K
    generalize dirG l (wlG l) = dg at *
    generalize wlG l = m at *
    clear hlw hg hgg f1 f2 f3 f4 hR
    go_enter Try.func20, Try.ntmps20
    go_wp2_with fail
    refine K.out.mono ?_; rintro e w1 ⟨rfl, hb1⟩
    go_wp2_with fail
    refine (K2.out _ hb1).mono ?_; rintro e w2 ⟨⟨v, rfl, hrv⟩, hb2⟩
    have HR := Lib.hid (rowM_base hrv hb1.size)
    clear hrv
    go_wp2_with fail
    go_ret2
    exact ⟨⟨_, rfl, HR.out⟩, hb1.trans (hb2.mono hb1.size)⟩
  · have hgf : goodB l = false := by simpa using hg
    have hlw : dwS l = [] := by unfold dwS; rw [hgf]; rfl
    rw [hlw, hgf]
    rw [hgf] at K
    clear hlw hg hgf hR
    go_enter Try.func20, Try.ntmps20
    go_wp2_with fail
    refine K.out.mono ?_; rintro e w1 ⟨rfl, hb1⟩
    go_wp2_with fail
    go_ret2
    exact ⟨⟨_, rfl, rowM_nil _ _⟩, hb1⟩
end Go.Proofs.Ytheddoinnakneaa
/- plain: the box, the least width -/
namespace Go.Proofs.Ytheddoinnakneaa
open Go.ChangeShapes Go.WideShapes Go.ChangeAt Go.RowKit Go.Joins
set_option linter.unusedVariables false
set_option linter.unusedSimpArgs false
set_option maxRecDepth 4000
theorem lo_box (l : List (Int × Int)) : ∀ k, loW l 1 0 k = (loN l k).1 ∧ loW l 0 1 k = (loN l k).2 ∧ hiW l 1 0 k = (hiN l k).1 ∧ hiW l 0 1 k = (hiN l k).2
  | 0 => by simp [loW, hiW, loN, hiN, vlu]
  | k + 1 => by
    obtain ⟨h1, h2, h3, h4⟩ := lo_box l k
    refine ⟨?_, ?_, ?_, ?_⟩
    · rw [loW, loN, h1]; simp [vlu]
    · rw [loW, loN, h2]; simp [vlu]
    · rw [hiW, hiN, h3]; simp [vlu]
    · rw [hiW, hiN, h4]; simp [vlu]
/-- the lesser side of the box -/
def bxM (l : List (Int × Int)) : Nat := (min (wdL l 1 0) (wdL l 0 1)).toNat
theorem lohi_40 {l : List (Int × Int)} (hg : Good l) : ∀ k, (-40 ≤ (loN l k).1 ∧ (loN l k).1 ≤ 40) ∧ (-40 ≤ (loN l k).2 ∧ (loN l k).2 ≤ 40) ∧ (-40 ≤ (hiN l k).1 ∧ (hiN l k).1 ≤ 40) ∧ (-40 ≤ (hiN l k).2 ∧ (hiN l k).2 ≤ 40) ∧ (loN l k).1 ≤ (hiN l k).1 ∧ (loN l k).2 ≤ (hiN l k).2
  | 0 => by have := vx_bd hg 0; simp only [loN, hiN]; omega
  | k + 1 => by
    have := vx_bd hg k
    have := lohi_40 hg k
    rw [loN, hiN]
    simp only
    omega
theorem bxM_is {l : List (Int × Int)} (hg : Good l) : (bxM l : Int) = min ((hiN l l.length).1 - (loN l l.length).1) ((hiN l l.length).2 - (loN l l.length).2) ∧ bxM l ≤ 80 ∧ ((wdL l 1 0 ≤ bxM l) ∨ (wdL l 0 1 ≤ bxM l)) := by
  obtain ⟨h1, h2, h3, h4⟩ := lo_box l l.length
  have hb := lohi_40 hg l.length
  unfold bxM wdL
  rw [h1, h2, h3, h4]
  omega
theorem told_small {l : List (Int × Int)} (hg : Good l) {M : Nat} (hM : M ≤ 80) {t : Int × Int} (ht : t ∈ dirD (wdL l) (pP l) (pQ l) M) : (-12800 ≤ t.1 ∧ t.1 ≤ 12800) ∧ (-12800 ≤ t.2 ∧ t.2 ≤ 12800) := by
  have hB : Base (wdL l) (pP l) (pQ l) := base_prog hg
  have h1 := (dirD_mem hB).1 ht
  have h2 := hB.p t.1 t.2
  have h3 := hB.q t.1 t.2
  have h4 := (solO_iff hB.d (vlu t.1 t.2 (pP l)) (vlu t.1 t.2 (pQ l)) t.1 t.2).2 ⟨rfl, rfl⟩
  have h5 := s_bd hg (m := vlu t.1 t.2 (pP l)) (n := vlu t.1 t.2 (pQ l)) (by omega) (by omega)
  unfold solO at h4
  split at h4
  · injection h4 with h4
    injection h4 with h6 h7
    unfold sX sY at h5
    rw [h6, h7] at h5
    exact h5
  · cases h4
theorem told_sml {l : List (Int × Int)} (hg : Good l) {M : Nat} (hM : M ≤ 80) {t : Int × Int} (ht : t ∈ dirD (wdL l) (pP l) (pQ l) M) : Sml l t := by
  have h := told_small hg hM ht
  have := lohi_bd (u := t.1) (v := t.2) (by omega) (by omega) (by omega) (by omega) hg.pegs (by have := hg.few; omega) l.length (Nat.le_refl _)
  exact ⟨this.1.1, this.1.2, this.2.1.1, this.2.1.2⟩
theorem wl_prog {l : List (Int × Int)} (hg : Good l) : wlI (wdL l) (pP l) (pQ l) (bxM l) = (wlG l : Int) ∧ wlG l ≤ bxM l ∧ 0 < (dirD (wdL l) (pP l) (pQ l) (bxM l)).length := by
  have hB : Base (wdL l) (pP l) (pQ l) := base_prog hg
  obtain ⟨h1, h2, h3⟩ := bxM_is hg
  obtain ⟨f1, f2, f3, f4, f5⟩ := wl_facts hB (M := bxM l) (box_told h3)
  obtain ⟨g1, g2, g3, g4⟩ := wlG_facts hg
  have e1 : wlI (wdL l) (pP l) (pQ l) (bxM l) ≤ (wlG l : Int) := (f4 (wlG l)).1 (by rw [dirG_prog hg]; exact g3)
  have e2 : ¬ wlI (wdL l) (pP l) (pQ l) (bxM l) < (wlG l : Int) := fun h => by
    have h5 := g4 (wlI (wdL l) (pP l) (pQ l) (bxM l)).toNat (by omega) (by omega)
    have h6 := (f4 (wlI (wdL l) (pP l) (pQ l) (bxM l)).toNat).2 (by omega)
    rw [dirG_prog hg] at h6
    omega
  exact ⟨by omega, by omega, f1⟩
theorem filt_prog {l : List (Int × Int)} (hg : Good l) : (dirD (wdL l) (pP l) (pQ l) (bxM l)).filter (fun t => decide (wdL l t.1 t.2 ≤ (wlG l : Int))) = dirG l (wlG l) := by
  exact (wl_filter (p := pP l) (q := pQ l) (base_prog hg) (wl_prog hg).2.1).trans (dirG_prog hg _)
end Go.Proofs.Ytheddoinnakneaa
/- contract: the spans of the directions in which a polygon's width is least, the program -/
namespace Go.Proofs.Ytheddoinnakneaa
open Go.ChangeShapes Go.WideShapes Go.ChangeAt Go.RowKit Go.Joins
set_option linter.unusedVariables false
set_option linter.unusedSimpArgs false
set_option maxRecDepth 4000
set_option maxRecDepth 100000 in
set_option maxHeartbeats 8000000 in
theorem leastSpans_any (A : Option Addr) (c : Nat) (l : List (Int × Int)) (w : World) (hg : Good l) (hR : Rd w w.heap.size A l) :
    Calls Try.prog 56 #[.slice A l.length c] w fun e w' => (∃ v, e = .returned v ∧ RowP w' w.heap.size v l (dirG l (wlG l))) ∧ Below w.heap.size w w' := by
  have hf := hg.few
  have hM := bxM_is hg
  have hb := lohi_40 hg l.length
  obtain ⟨p1, p2, p3⟩ := wl_prog hg
  have KB := Lib.hid (boxAround_any A c l w (by omega) (by omega) hR)
  have KS := Lib.hid (fun W (hb : Below w.heap.size w W) => spansUpTo_any A c l (bxM l) W hM.2.1 hg (rd_more (rd_below hR hb (Nat.le_refl _)) hb.size))
  have HS := Lib.hid (fun i (hi : i < (dirD (wdL l) (pP l) (pQ l) (bxM l)).length) => told_sml hg hM.2.1 (pt_mem (s := dirD (wdL l) (pP l) (pQ l) (bxM l)) (i := i) hi))
  have HL : Hid ((dirD (wdL l) (pP l) (pQ l) (bxM l)).length ≤ 1000000) := Lib.hid (by
    unfold dirD
    rw [srt_len]
    have := dirAll_len (wdL l) (bxM l) (pP l) (pQ l) (2 * bxM l + 1)
    have h3 : (2 * bxM l + 1) * (2 * bxM l + 1) ≤ 161 * 161 := Nat.mul_le_mul (by omega) (by omega)
    omega)
  have HW0 : Hid (minW (wdL l) (dirD (wdL l) (pP l) (pQ l) (bxM l)) (wdL l (pt (dirD (wdL l) (pP l) (pQ l) (bxM l)) 0).1 (pt (dirD (wdL l) (pP l) (pQ l) (bxM l)) 0).2) (dirD (wdL l) (pP l) (pQ l) (bxM l)).length = (wlG l : Int)) := Lib.hid p1
  have HF := Lib.hid (filt_prog hg)
  have hm := hM.1
  generalize dirD (wdL l) (pP l) (pQ l) (bxM l) = s at *
  generalize dirG l (wlG l) = R at *
  have KD := Lib.hid (fun base g cap gw W h hlen hz hne hc => deleteF_any base g cap gw (wlG l : Int) l s W h HS.out hlen hz hne hc)
  rw [HF.out] at KD
  have KW := Lib.hid (fun i (hi : i < s.length) W => width_any (pt s i).1 (pt s i).2 (loW l (pt s i).1 (pt s i).2 l.length) (hiW l (pt s i).1 (pt s i).2 l.length) W (HS.out i hi).1 (HS.out i hi).2.1 (HS.out i hi).2.2.1 (HS.out i hi).2.2.2)
  have HWd : Hid (∀ t : Int × Int, hiW l t.1 t.2 l.length - loW l t.1 t.2 l.length = wdL l t.1 t.2) := Lib.hid (fun t => rfl)
  obtain ⟨mw, hmw⟩ : ∃ mw : Nat → Int, mw = minW (wdL l) s (wdL l (pt s 0).1 (pt s 0).2) := ⟨_, rfl⟩
  have HM0 : Hid (wdL l (pt s 0).1 (pt s 0).2 = mw 0) := Lib.hid (by rw [hmw]; rfl)
  have HMS : Hid (∀ k, min (mw k) (wdL l (pt s k).1 (pt s k).2) = mw (k + 1)) := Lib.hid (fun k => by rw [hmw]; rfl)
  have HME : Hid (mw s.length = (wlG l : Int)) := Lib.hid (by rw [hmw]; exact HW0.out)
  have HLN := HL.out
  clear hmw HS HF HW0 p1 p2 hR hg hM HL
  generalize (loN l l.length).1 = x0 at *
  generalize (loN l l.length).2 = y0 at *
  generalize (hiN l l.length).1 = x1 at *
  generalize (hiN l l.length).2 = y1 at *
  generalize bxM l = M at *
  have r1 : IntKind.i64.wrap (x1 - x0) = x1 - x0 := IntWalk.i64_in _ (by omega)
  have r2 : IntKind.i64.wrap (y1 - y0) = y1 - y0 := IntWalk.i64_in _ (by omega)
  have HMM := Lib.hid hm
  have KW0 := Lib.hid (fun W => KW.out 0 p3 W)
  rw [HWd.out, HM0.out] at KW0
  clear hm hb hf
  go_enter Try.func56, Try.ntmps56
  go_wp2_with fail
  refine KB.out.mono ?_; rintro e w1 ⟨rfl, hb1⟩
  go_wp2_with fail
  rw [← HMM.out]
  have B2 : Below w.heap.size w ((w1.alloc (.cells #[.int .i64 x0, .int .i64 y0] 56)).alloc (.cells #[.int .i64 x1, .int .i64 y1] 56)) := Below.alloc (Below.alloc hb1 hb1.size _) (by have := hb1.size; simp <;> omega) _
  generalize ((w1.alloc (.cells #[.int .i64 x0, .int .i64 y0] 56)).alloc (.cells #[.int .i64 x1, .int .i64 y1] 56)) = W2 at B2 ⊢
  refine (KS.out _ B2).mono ?_; rintro e w3 ⟨⟨v, rfl, hrow⟩, hb3⟩
  have B3 := B2.trans (hb3.mono B2.size)
  rcases own_val hrow with ⟨rfl, h0⟩ | ⟨g, cap, rfl, _, _, hgb, hgz⟩
  · exact absurd h0 (by omega)
  have hgw := Nat.le_trans B2.size hgb
  have R3 := Lib.hid (rowP_base hrow B2.size)
  obtain ⟨c0, c1, c2, c3⟩ := rowP_at hrow (i := 0) p3
  simp only [Nat.zero_mul, Nat.zero_add] at c0 c1 c2 c3
  have hn1 : (0 : Int) < (s.length : Int) := by omega
  have HN1 := Lib.hid p3
  clear hrow KS B2 hb3 hb1 HMM r1 r2 hgb
  generalize hN : s.length = n at *
  have HN := Lib.hid hN
  clear hN
  go_wp2_with fail
  refine (KW0.out _).mono ?_; rintro e w4 ⟨rfl, hb4⟩
  have B4 := B3.trans (hb4.mono B3.size)
  have R4 := Lib.hid (rowP_below R3.out hb4 (Nat.le_refl _))
  have hg4 := Nat.lt_of_lt_of_le hgz hb4.size
  clear c0 c1 c2 c3 hb4 B3 R3 hgz KW0 hn1
  go_wp2_with fail
  obtain ⟨W5, hW5⟩ : ∃ W5, W5 = (w4.alloc (.cells #[.int .i64 (mw 0)] 3)) := ⟨_, rfl⟩
  rw [← hW5]
  have yW50_0 : W5.cell? ⟨w4.heap.size, 0, none⟩ = some (.int .i64 (mw 0)) := by rw [hW5]; go_simp
  have fW50 : ∀ o, W5.frozen? ⟨w4.heap.size, o, none⟩ = false := by intro o; rw [hW5]; (repeat rw [frozen?_alloc_cells]); simp [World.frozen?]
  have zW50 : w4.heap.size < W5.heap.size := by rw [hW5]; simp <;> omega
  have BW5 : Below w4.heap.size w4 W5 := by rw [hW5]; exact (Below.alloc (Below.refl _ _) (by simp <;> omega) _)
  have eW5 : Hid (W5.heap.size = w4.heap.size + 1) := Lib.hid (by rw [hW5]; simp)
  clear hW5
  have B5 := B4.trans (BW5.mono B4.size)
  have R5 := Lib.hid (rowP_below R4.out BW5 (Nat.le_refl _))
  obtain ⟨gw, hgwe⟩ : ∃ x, x = w4.heap.size := ⟨_, rfl⟩
  rw [← hgwe] at yW50_0 fW50 zW50 ⊢
  have hne : gw ≠ g := by omega
  have hgl : w.heap.size ≤ gw := by have := B4.size; omega
  have C5 := Lib.hid yW50_0
  have F5 := Lib.hid fW50
  have HNE := Lib.hid hne
  clear hgwe yW50_0 fW50 BW5 eW5 B4 R4 hg4 hne
  go_loopg [33] n (fun gg i wr => ∃ k : Nat, k ≤ n ∧ gg = n - k ∧ i = .int .i64 (k : Int) ∧ Below w.heap.size w wr ∧ Hid (RowP wr w.heap.size (.slice (some ⟨g, 0, none⟩) n cap) l s) ∧ gw < wr.heap.size ∧ Hid (wr.cell? ⟨gw, 0, none⟩ = some (.int .i64 (mw k))) ∧ Hid (∀ o, wr.frozen? ⟨gw, o, none⟩ = false))
  case atStart => exact ⟨0, Nat.zero_le _, rfl, rfl, B5, R5, zW50, C5, F5⟩
  case round =>
    clear B5 R5 C5 F5 zW50
    obtain ⟨k, hk, hgg, rfl, hB, HR, hZ, HC, HFz⟩ := hrel
    rename World => wo
    have HGK := Lib.hid hgg
    clear hgg
    have hr0 : RowP wo w.heap.size (.slice (some ⟨g, 0, none⟩) s.length cap) l s := by rw [HN.out]; exact HR.out
    have hgo : g < wo.heap.size := (World.ownsRow.lt hr0 g rfl).2
    by_cases hkn : k < n
    · obtain ⟨c0, c1, c2, c3⟩ := rowP_at hr0 (i := k) (by rw [HN.out]; exact hkn)
      have KW1 := Lib.hid (fun W => KW.out k hkn W)
      rw [HWd.out] at KW1
      have hms := HMS.out k
      have HMS1 := Lib.hid hms
      generalize wdL l (pt s k).1 (pt s k).2 = wk at *
      generalize loW l (pt s k).1 (pt s k).2 l.length = lo at *
      generalize hiW l (pt s k).1 (pt s k).2 l.length = hi at *
      generalize (pt s k).1 = u at *
      generalize (pt s k).2 = v at *
      clear hms hr0
      go_wp2_with fail
      obtain ⟨W6, hW6⟩ : ∃ W6, W6 = (wo.alloc (.cells #[.int .i64 u, .int .i64 v, .int .i64 lo, .int .i64 hi] 68)) := ⟨_, rfl⟩
      rw [← hW6]
      have yW60_0 : W6.cell? ⟨wo.heap.size, 0, none⟩ = some (.int .i64 u) := by rw [hW6]; go_simp
      have yW60_1 : W6.cell? ⟨wo.heap.size, 1, none⟩ = some (.int .i64 v) := by rw [hW6]; go_simp
      have yW60_2 : W6.cell? ⟨wo.heap.size, 2, none⟩ = some (.int .i64 lo) := by rw [hW6]; go_simp
      have yW60_3 : W6.cell? ⟨wo.heap.size, 3, none⟩ = some (.int .i64 hi) := by rw [hW6]; go_simp
      have fW60 : ∀ o, W6.frozen? ⟨wo.heap.size, o, none⟩ = false := by intro o; rw [hW6]; (repeat rw [frozen?_alloc_cells]); simp [World.frozen?]
      have zW60 : wo.heap.size < W6.heap.size := by rw [hW6]; simp <;> omega
      have BW6 : Below wo.heap.size wo W6 := by rw [hW6]; exact (Below.alloc (Below.refl _ _) (by simp <;> omega) _)
      have eW6 : Hid (W6.heap.size = wo.heap.size + 1) := Lib.hid (by rw [hW6]; simp)
      clear hW6
      have B6 := hB.trans (BW6.mono hB.size)
      have R6 := Lib.hid (rowP_below HR.out BW6 (Nat.le_refl _))
      have d0 := ((bcell BW6).1 _ 0 hZ).trans HC.out
      have d1 := ((bcell BW6).2 _ 0 hZ).trans (HFz.out 0)
      have dz := Nat.lt_of_lt_of_le hZ BW6.size
      have hfz : ∀ o, W6.frozen? ⟨gw, o, none⟩ = false := fun o => ((bcell BW6).2 _ o hZ).trans (HFz.out o)
      have HF6 := Lib.hid hfz
      have HC6 := Lib.hid d0
      clear hfz BW6 c0 c1 c2 c3 hB HR HC HFz hgo
      refine wp_region_BT 3 (fun W => Below (W6).heap.size (W6) W) (by kernel_rfl) (by kernel_rfl) (by repeat (first | exact Below.refl _ _ | apply Below.drew)) ?_
      simp only [List.take_succ_cons, List.take_zero, List.drop_succ_cons, List.drop_zero]
      first | refine wpH_skip (by rfl) ?_ | (refine wpH_text (v := ?_) (by rfl) (fun W k1 => ?_) ?_; rotate_left; (obtain ⟨hc1, hf1⟩ := bcell k1;  go_simp; refine comes_v ?_; exact k1))
      (try simp only [Act.put, List.setIfInBounds_toArray, List.set_cons_zero, List.set_cons_succ])
      first | refine wpH_skip (by rfl) ?_ | (refine wpH_text (v := ?_) (by rfl) (fun W k1 => ?_) ?_; rotate_left; (obtain ⟨hc1, hf1⟩ := bcell k1;  go_simp; refine comes_v ?_; exact k1))
      (try simp only [Act.put, List.setIfInBounds_toArray, List.set_cons_zero, List.set_cons_succ])
      first | refine wpH_skip (by rfl) ?_ | (refine wpH_text (v := .int .i64 wk) (by rfl) (fun W k1 => ?_) ?_; (obtain ⟨hc1, hf1⟩ := bcell k1;  go_simp; exact comes_c ( KW1.out _) (fun wn hbn => k1.trans (hbn.mono k1.size))))
      (try simp only [Act.put, List.setIfInBounds_toArray, List.set_cons_zero, List.set_cons_succ])
      refine wpH_nil ?_
      intro W k1; obtain ⟨hc1, hf1⟩ := bcell k1
      have e0 := ((bcell k1).1 _ 0 dz).trans HC6.out
      have e1 := ((bcell k1).2 _ 0 dz).trans d1
      have ez := Nat.lt_of_lt_of_le dz k1.size
      have B7 := B6.trans (k1.mono B6.size)
      have R7 := Lib.hid (rowP_below R6.out k1 (Nat.le_refl _))
      have HF7 : Hid (∀ o, W.frozen? ⟨gw, o, none⟩ = false) := Lib.hid (fun o => ((bcell k1).2 _ o dz).trans (HF6.out o))
      have HE0 := Lib.hid e0
      clear hc1 hf1 k1 d0 d1 dz B6 R6 HF6 HC6 zW60 yW60_0 yW60_1 yW60_2 yW60_3 fW60 eW6
      go_wp2_with fail
      rw [HMS1.out]
      go_roundg (n - (k + 1))
      case measure => have := HGK.out; omega
      case rel => exact ⟨k + 1, by omega, rfl, by go_num, B7.setCell hgl _, Lib.hid (own_set2 R7.out gw 0 _ (fun e => HNE.out (by injection e with e; exact e.symm))), by simpa [World.setCell] using ez, Lib.hid (World.cell?_setCell_same _ _ _ HE0.out), Lib.hid (fun o => by rw [World.frozen?_setCell]; exact HF7.out o)⟩
    · obtain rfl : k = n := by omega
      have KD1 := Lib.hid (KD.out w.heap.size g cap gw wo HR.out HLN hZ HNE.out (by rw [← HME.out]; exact HC.out))
      clear hr0 HR HC HFz hgo
      go_wp2_with fail
      refine KD1.out.mono ?_; rintro e w9 ⟨⟨v9, rfl, r9⟩, hb9⟩
      have R9 := Lib.hid r9
      have B9 := hB.trans (hb9.mono hgw)
      clear r9 hb9 hB KD1
      go_wp2_with fail
      go_ret
      exact ⟨⟨_, rfl, R9.out⟩, B9⟩
end Go.Proofs.Ytheddoinnakneaa
/- contract: IsThin, the model -/
namespace Go.Proofs.Ytheddoinnakneaa
open Go.ChangeShapes Go.WideShapes Go.ChangeAt Go.RowKit Go.Joins
set_option linter.unusedVariables false
set_option linter.unusedSimpArgs false
set_option maxRecDepth 4000
noncomputable def thS (l : List (Int × Int)) : Bool := goodB l && decide (0 < (dirG l 1).length)
theorem specIsThin_any (A : Option Addr) (c : Nat) (l : List (Int × Int)) (w : World) (hn : l.length ≤ 1048576) (hcap : l.length ≤ c) (hc2 : c ≤ 9223372036854775807) (hR : Rd w w.heap.size A l) :
    Calls Try.prog 28 #[.slice A l.length c] w fun e w' => e = .returned (.tuple #[.bool (thS l), .bool (goodB l)]) ∧ Below w.heap.size w w' := by
  have K := Lib.hid (pgGood_any A c l w hn hcap hc2 hR)
  by_cases hg : goodB l = true
  · have hgg : Good l := by unfold goodB at hg; simpa using hg
    have K2 := Lib.hid (fun W (hb : Below w.heap.size w W) => wiAll_any A c l 1 W (by omega) hgg (rd_more (rd_below hR hb (Nat.le_refl _)) hb.size))
    have hlw : thS l = decide (0 < (dirG l 1).length) := by unfold thS; rw [hg]; rfl
    rw [hlw, hg]
    rw [hg] at K
    change Hid (∀ W, Below w.heap.size w W → Calls Try.prog 59 #[.slice A l.length c, .int .i64 (1 : Int)] W fun e w' => (∃ v, e = .returned v ∧ RowM w' W.heap.size v (dirG l 1)) ∧ Below W.heap.size W w') at K2
    generalize dirG l 1 = dg at *
    clear hlw hg hgg hR
    by_cases h0 : 0 < dg.length
    · rw [decide_eq_true h0]
      go_enter Try.func28, Try.ntmps28
      go_wp2_with fail
      refine K.out.mono ?_; rintro e w1 ⟨rfl, hb1⟩
      go_wp2_with fail
      refine (K2.out _ hb1).mono ?_; rintro e w2 ⟨⟨v, rfl, hrv⟩, hb2⟩
      obtain ⟨A2, c2, rfl, _⟩ := rowM_val hrv
      clear hrv
      have BZ := hb1.trans (hb2.mono hb1.size)
      clear hb1 hb2 K K2
      go_wp2_with fail
      go_ret2
      exact ⟨rfl, BZ⟩
    · rw [decide_eq_false h0]
      have h1 : dg.length = 0 := by omega
      clear h0
      go_enter Try.func28, Try.ntmps28
      go_wp2_with fail
      refine K.out.mono ?_; rintro e w1 ⟨rfl, hb1⟩
      go_wp2_with fail
      refine (K2.out _ hb1).mono ?_; rintro e w2 ⟨⟨v, rfl, hrv⟩, hb2⟩
      obtain ⟨A2, c2, rfl, _⟩ := rowM_val hrv
      clear hrv
      rw [h1]
      have BZ := hb1.trans (hb2.mono hb1.size)
      clear hb1 hb2 K K2
      go_wp2_with fail
      go_ret2
      exact ⟨rfl, BZ⟩
  · have hgf : goodB l = false := by simpa using hg
    have hlw : thS l = false := by unfold thS; rw [hgf]; rfl
    rw [hlw, hgf]
    rw [hgf] at K
    clear hlw hg hgf hR
    go_enter Try.func28, Try.ntmps28
    go_wp2_with fail
    refine K.out.mono ?_; rintro e w1 ⟨rfl, hb1⟩
    go_wp2_with fail
    go_ret2
    exact ⟨rfl, hb1⟩
end Go.Proofs.Ytheddoinnakneaa
/- contracts: LeastWidth, IsThin, the program -/
namespace Go.Proofs.Ytheddoinnakneaa
open Go.ChangeShapes Go.WideShapes Go.ChangeAt Go.RowKit Go.Joins
set_option linter.unusedVariables false
set_option linter.unusedSimpArgs false
set_option maxRecDepth 4000
theorem dirG_mem {l : List (Int × Int)} (hg : Good l) {m : Nat} {t : Int × Int} : t ∈ dirG l m ↔ toldB t.1 t.2 = true ∧ wdL l t.1 t.2 ≤ m := dirD_mem (base_model hg)
/-- each of the directions in which the width is least has that width -/
theorem dirG_least {l : List (Int × Int)} (hg : Good l) {i : Nat} (hi : i < (dirG l (wlG l)).length) : wdL l (pt (dirG l (wlG l)) i).1 (pt (dirG l (wlG l)) i).2 = (wlG l : Int) := by
  have h := (dirG_mem hg).1 (pt_mem (s := dirG l (wlG l)) (i := i) hi)
  obtain ⟨f1, f2, f3, f4, f5⟩ := wl_facts (base_model hg) (M := 80) (box_told (Or.inl (wd_box hg)))
  have e : (wlG l : Int) = wlI (wdL l) (subP (vx l 1) (vx l 0)) (subP (vx l 2) (vx l 0)) 80 := by unfold wlG; omega
  have := f5 _ h.1
  omega
theorem dirG_sml {l : List (Int × Int)} (hg : Good l) {i : Nat} (hi : i < (dirG l (wlG l)).length) : Sml l (pt (dirG l (wlG l)) i) := by
  have h := pt_mem (s := dirG l (wlG l)) (i := i) hi
  have h2 := wlG_facts hg
  rw [← dirG_prog hg] at h
  exact told_sml hg h2.2.1 (by rw [dirG_prog hg] at h ⊢; exact h)
theorem thin_is {l : List (Int × Int)} (hg : Good l) : decide (0 < (dirG l 1).length) = decide ((wlG l : Int) = 1) := by
  obtain ⟨f1, f2, f3, f4, f5⟩ := wl_facts (base_model hg) (M := 80) (box_told (Or.inl (wd_box hg)))
  have e : (wlG l : Int) = wlI (wdL l) (subP (vx l 1) (vx l 0)) (subP (vx l 2) (vx l 0)) 80 := by unfold wlG; omega
  have h := f4 1
  rw [decide_eq_decide]
  unfold dirG
  rw [h]
  omega
set_option maxHeartbeats 2000000 in
theorem implLeastWidth_any (A : Option Addr) (c : Nat) (l : List (Int × Int)) (w : World) (hn : l.length ≤ 1048576) (hR : Rd w w.heap.size A l) :
    Calls Try.prog 18 #[.slice A l.length c] w fun e w' => e = .returned (.tuple #[.int .i64 (lwS l), .bool (goodB l)]) ∧ Below w.heap.size w w' := by
  have K := Lib.hid (implIsPolygon_any A c l w hn hR)
  by_cases hg : goodB l = true
  · have hgg : Good l := by unfold goodB at hg; simpa using hg
    have h0 := (wlG_facts hgg).2.2.1
    have K2 := Lib.hid (fun W (hb : Below w.heap.size w W) => leastSpans_any A c l W hgg (rd_more (rd_below hR hb (Nat.le_refl _)) hb.size))
    have hs := dirG_sml hgg h0
    have KW := Lib.hid (fun W => width_any (pt (dirG l (wlG l)) 0).1 (pt (dirG l (wlG l)) 0).2 (loW l (pt (dirG l (wlG l)) 0).1 (pt (dirG l (wlG l)) 0).2 l.length) (hiW l (pt (dirG l (wlG l)) 0).1 (pt (dirG l (wlG l)) 0).2 l.length) W hs.1 hs.2.1 hs.2.2.1 hs.2.2.2)
    have hw : hiW l (pt (dirG l (wlG l)) 0).1 (pt (dirG l (wlG l)) 0).2 l.length - loW l (pt (dirG l (wlG l)) 0).1 (pt (dirG l (wlG l)) 0).2 l.length = (wlG l : Int) := dirG_least hgg h0
    rw [hw] at KW
    have hlw : lwS l = (wlG l : Int) := by unfold lwS; rw [if_pos hg]
    rw [hlw, hg]
    rw [hg] at K
    generalize dirG l (wlG l) = s at *
    clear hlw hg hgg hR hs hw
    go_enter Try.func18, Try.ntmps18
    go_wp2_with fail
    refine K.out.mono ?_; rintro e w1 ⟨rfl, hb1⟩
    go_wp2_with fail
    refine (K2.out _ hb1).mono ?_; rintro e w2 ⟨⟨v, rfl, hrv⟩, hb2⟩
    rcases own_val hrv with ⟨rfl, hx⟩ | ⟨g, cap, rfl, _, _, hgb, hgz⟩
    · exact absurd hx (by omega)
    obtain ⟨c0, c1, c2, c3⟩ := rowP_at hrv (i := 0) h0
    simp only [Nat.zero_mul, Nat.zero_add] at c0 c1 c2 c3
    have hn1 : (0 : Int) < (s.length : Int) := by omega
    have B2 := hb1.trans (hb2.mono hb1.size)
    clear hrv hb1 hb2 K K2
    go_wp2_with fail
    refine (KW.out _).mono ?_; rintro e w3 ⟨rfl, hb3⟩
    have B3 := B2.trans (hb3.mono B2.size)
    go_wp2_with fail
    go_ret2
    exact ⟨rfl, B3⟩
  · have hgf : goodB l = false := by simpa using hg
    have hlw : lwS l = 0 := by unfold lwS; rw [hgf]; rfl
    rw [hlw, hgf]
    rw [hgf] at K
    clear hlw hg hgf hR
    go_enter Try.func18, Try.ntmps18
    go_wp2_with fail
    refine K.out.mono ?_; rintro e w1 ⟨rfl, hb1⟩
    go_wp2_with fail
    go_ret2
    exact ⟨rfl, hb1⟩
theorem implIsThin_any (A : Option Addr) (c : Nat) (l : List (Int × Int)) (w : World) (hn : l.length ≤ 1048576) (hR : Rd w w.heap.size A l) :
    Calls Try.prog 29 #[.slice A l.length c] w fun e w' => e = .returned (.tuple #[.bool (thS l), .bool (goodB l)]) ∧ Below w.heap.size w w' := by
  have K := Lib.hid (implLeastWidth_any A c l w hn hR)
  have hth : thS l = decide (lwS l = 1) := by
    unfold thS lwS
    by_cases hg : goodB l = true
    · have hgg : Good l := by unfold goodB at hg; simpa using hg
      rw [if_pos hg, hg, thin_is hgg, Bool.true_and]
    · have hgf : goodB l = false := by simpa using hg
      rw [hgf, Bool.false_and, if_neg (by decide)]; rfl
  rw [hth]
  generalize lwS l = x at *
  generalize goodB l = gb at *
  clear hth hR
  by_cases hx : x = 1
  · subst hx
    go_enter Try.func29, Try.ntmps29
    go_wp2_with fail
    refine K.out.mono ?_; rintro e w1 ⟨rfl, hb1⟩
    go_wp2_with fail
    go_ret2
    exact ⟨rfl, hb1⟩
  · rw [decide_eq_false hx]
    go_enter Try.func29, Try.ntmps29
    go_wp2_with fail
    refine K.out.mono ?_; rintro e w1 ⟨rfl, hb1⟩
    go_wp2_with fail
    go_ret2
    exact ⟨by simp [hx], hb1⟩
end Go.Proofs.Ytheddoinnakneaa
/- contract: the nearer one of two numbers, the model -/
namespace Go.Proofs.Ytheddoinnakneaa
open Go.ChangeShapes Go.WideShapes Go.ChangeAt Go.RowKit Go.Joins
set_option linter.unusedVariables false
set_option linter.unusedSimpArgs false
set_option maxRecDepth 4000
theorem wiNearer_any (a b : Int) (w : World) (ha : -1000000000 ≤ a ∧ a ≤ 1000000000) (hb : -1000000000 ≤ b ∧ b ≤ 1000000000) :
    Calls Try.prog 102 #[.int .i64 a, .int .i64 b] w fun e w' => e = .returned (.bool (decide (nrP a b))) ∧ w = w' := by
  have K1 := Lib.hid (fun W => l1Abs_any a W (by omega) (by omega))
  have K2 := Lib.hid (fun W => l1Abs_any b W (by omega) (by omega))
  have hx : (decide (nrP a b) = true ∧ (a.natAbs : Int) < (b.natAbs : Int)) ∨ (¬ (a.natAbs : Int) < (b.natAbs : Int) ∧ (a.natAbs : Int) = (b.natAbs : Int) ∧ decide (nrP a b) = decide (b < a)) ∨ (¬ (a.natAbs : Int) < (b.natAbs : Int) ∧ ¬ (a.natAbs : Int) = (b.natAbs : Int) ∧ decide (nrP a b) = false) := by
    by_cases h1 : (a.natAbs : Int) < (b.natAbs : Int)
    · exact Or.inl ⟨decide_eq_true (by unfold nrP; omega), h1⟩
    · by_cases h2 : (a.natAbs : Int) = (b.natAbs : Int)
      · exact Or.inr (Or.inl ⟨h1, h2, decide_eq_decide.2 (by unfold nrP; omega)⟩)
      · exact Or.inr (Or.inr ⟨h1, h2, decide_eq_false (by unfold nrP; omega)⟩)
  clear ha hb
  generalize decide (nrP a b) = d at *
  generalize (a.natAbs : Int) = x at *
  generalize (b.natAbs : Int) = y at *
  rcases hx with ⟨rfl, h1⟩ | ⟨h1, h2, rfl⟩ | ⟨h1, h2, rfl⟩
  · go_enter Try.func102, Try.ntmps102
    go_wp2_with fail
    refine (K1.out _).mono ?_; rintro e _ ⟨rfl, rfl⟩
    go_wp2_with fail
    refine (K2.out _).mono ?_; rintro e _ ⟨rfl, rfl⟩
    go_wp2_with fail
    go_ret
    exact ⟨rfl, rfl⟩
  · subst h2
    go_enter Try.func102, Try.ntmps102
    go_wp2_with fail
    refine (K1.out _).mono ?_; rintro e _ ⟨rfl, rfl⟩
    go_wp2_with fail
    refine (K2.out _).mono ?_; rintro e _ ⟨rfl, rfl⟩
    go_wp2_with fail
    refine (K1.out _).mono ?_; rintro e _ ⟨rfl, rfl⟩
    go_wp2_with fail
    refine (K2.out _).mono ?_; rintro e _ ⟨rfl, rfl⟩
    go_wp2_with fail
    go_ret
    exact ⟨by first | rfl | simp, rfl⟩
  · go_enter Try.func102, Try.ntmps102
    go_wp2_with fail
    refine (K1.out _).mono ?_; rintro e _ ⟨rfl, rfl⟩
    go_wp2_with fail
    refine (K2.out _).mono ?_; rintro e _ ⟨rfl, rfl⟩
    go_wp2_with fail
    refine (K1.out _).mono ?_; rintro e _ ⟨rfl, rfl⟩
    go_wp2_with fail
    refine (K2.out _).mono ?_; rintro e _ ⟨rfl, rfl⟩
    go_wp2_with fail
    go_ret
    exact ⟨by first | rfl | simp [h1], rfl⟩
theorem bsB_bd {u v : Int} (hu : 0 < u ∨ u = 0 ∧ v = 1) (hu2 : u ≤ 12800) (hv : -12800 ≤ v ∧ v ≤ 12800) (hg : Nat.gcd u.natAbs v.natAbs = 1) : (-12800 ≤ bsA u v ∧ bsA u v ≤ 12800) ∧ (-12801 ≤ bsB u v ∧ bsB u v ≤ 12801) := by
  rcases hu with hu | ⟨rfl, rfl⟩
  · have h1 := (bsA_is (v := v) hu).1
    have h2 := bs_det hu hg
    generalize bsA u v = A at *
    generalize bsB u v = B at *
    have h3 : (A * v).natAbs = A.natAbs * v.natAbs := Int.natAbs_mul _ _
    have h4 : A.natAbs * v.natAbs ≤ A.natAbs * 12800 := Nat.mul_le_mul_left _ (by omega)
    have h5 : (B * u).natAbs = B.natAbs * u.natAbs := Int.natAbs_mul _ _
    refine ⟨by omega, ?_⟩
    rcases Nat.lt_or_ge 12801 B.natAbs with g | g
    · exfalso
      have h6 : 12802 * u.natAbs ≤ B.natAbs * u.natAbs := Nat.mul_le_mul_right _ (by omega)
      omega
    · omega
  · decide
/-- the first one of the directions in which a polygon's width is least -/
noncomputable def fdU (l : List (Int × Int)) : Int := (pt (dirG l (wlG l)) 0).1
noncomputable def fdV (l : List (Int × Int)) : Int := (pt (dirG l (wlG l)) 0).2
theorem fd_facts {l : List (Int × Int)} (hg : Good l) : (0 < fdU l ∨ fdU l = 0 ∧ fdV l = 1) ∧ (0 ≤ fdU l ∧ fdU l ≤ 12800) ∧ (-12800 ≤ fdV l ∧ fdV l ≤ 12800) ∧ Nat.gcd (fdU l).natAbs (fdV l).natAbs = 1 := by
  have h0 := (wlG_facts hg).2.2.1
  have hm := pt_mem (s := dirG l (wlG l)) (i := 0) h0
  have h1 := ((dirG_mem hg).1 hm).1
  have h2 := told_small hg (wlG_facts hg).2.1 (by rw [dirG_prog hg]; exact hm)
  unfold toldB at h1
  simp only [Bool.and_eq_true, Bool.or_eq_true, decide_eq_true_eq] at h1
  unfold fdU fdV
  exact ⟨h1.1, ⟨by omega, h2.1.2⟩, h2.2, h1.2⟩
theorem rowM_first {w : World} {base : Nat} {v : Value} {m : List (Int × Int)} (h : RowM w base v m) (h0 : 0 < m.length) : ∃ g cap b0, v = .slice (some ⟨g, 0, none⟩) m.length cap ∧ g < w.heap.size ∧ b0 < w.heap.size ∧ w.cell? ⟨g, 0, none⟩ = some (.slice (some ⟨b0, 0, none⟩) 2 2) ∧ w.cell? ⟨b0, 0, none⟩ = some (.int .i64 (pt m 0).1) ∧ w.cell? ⟨b0, 1, none⟩ = some (.int .i64 (pt m 0).2) := by
  obtain ⟨q, ho, hP⟩ := h
  rcases own_val ho with ⟨rfl, hx⟩ | ⟨g, cap, rfl, _, _, _, hgz⟩
  · omega
  · obtain ⟨b0, h1, h2, h3, h4⟩ := prM_read hP h0
    exact ⟨g, cap, b0, rfl, hgz, h2, (World.ownsRow.cellAt ho 0 (by omega)).trans (slM_get h1), h3, h4⟩
end Go.Proofs.Ytheddoinnakneaa
/- an argument that is a list of points, opened -/
namespace Go.Proofs.Ytheddoinnakneaa
open Go.ChangeShapes Go.WideShapes Go.ChangeAt Go.RowKit Go.Joins
set_option linter.unusedVariables false
set_option linter.unusedSimpArgs false
set_option maxRecDepth 4000
open Go.Deep
theorem lt_of_cell {w : World} {a : Addr} {u : Value} (h : w.cell? a = some u) : a.block < w.heap.size := by
  rcases Nat.lt_or_ge a.block w.heap.size with h1 | h1
  · exact h1
  · unfold World.cell? at h
    rw [Array.getElem?_eq_none h1] at h
    simp at h
section
variable {H : Type} {enc : TypeId × Value → H}
/-- a point of the laws' package, read from two cells -/
theorem read_peg {w : World} {base : Nat} {spare : Nat → Bool} {held : Bool} {fuel : Nat} {c0 c1 : Value} {x : DataW H × List MemPlace}
    (h : DataW.trod enc Try.prog w base spare held fuel 64 [c0, c1] = some x) : ∃ a b : Int, c0 = .int .i64 a ∧ c1 = .int .i64 b := by
  obtain ⟨xs, n, _, _, _, hlen, hg⟩ := DataW.trod_struct Try.underlying64 h
  have g0 : DataW.trod enc Try.prog w base spare held n 3 ((List.drop 0 [c0, c1]).take (Try.prog.cellsOf 3)) = xs[0]? := hg 0 _ rfl
  have g1 : DataW.trod enc Try.prog w base spare held n 3 ((List.drop 1 [c0, c1]).take (Try.prog.cellsOf 3)) = xs[1]? := hg 1 _ rfl
  have k3 : Try.prog.cellsOf 3 = 1 := by kernel_rfl
  rw [k3] at g0 g1
  match xs, hlen with
  | [y0, y1], _ =>
    simp only [List.drop_zero, List.drop_succ_cons, List.take_succ_cons, List.take_zero, List.getElem?_cons_zero, List.getElem?_cons_succ] at g0 g1
    obtain ⟨a, e0, _, _⟩ := DataW.trod_int Try.underlying3 g0
    obtain ⟨b, e1, _, _⟩ := DataW.trod_int Try.underlying3 g1
    simp only [List.cons.injEq, and_true] at e0 e1
    exact ⟨a, b, e0, e1⟩
/-- an argument that is a list of points -/
theorem open_pegs {w : World} {r : Reach} {b0 base : Nat} {spare : Nat → Bool} {v : Value} {d : DataW H} {p : List MemPlace} (hv : Value.okWide Try.prog w r b0 22 v)
    (h : DataW.Trod enc Try.prog w base spare true 22 v d p) : ∃ (A : Option Addr) (c : Nat) (l : List (Int × Int)), v = .slice A l.length c ∧ l.length ≤ c ∧ c ≤ maxLen ∧ Rd w w.heap.size A l := by
  obtain ⟨a0, len, cap, rfl⟩ := okWide_slice Try.underlying22 hv
  obtain ⟨fuel, hf⟩ := h
  rcases open_slice Try.underlying22 hf with ⟨hcs, _⟩ | ⟨a, len', cap', m, n, D, Pl, hcs, _, hl, hm, hmm, _, hi⟩
  · simp [Value.cells] at hcs
    obtain ⟨rfl, rfl, rfl⟩ := hcs
    exact ⟨none, 0, [], rfl, by simp, by simp, fun h => absurd h (by simp)⟩
  · simp [Value.cells] at hcs
    obtain ⟨rfl, rfl, rfl⟩ := hcs
    have hml : len ≤ m := by rw [hmm]; split <;> omega
    have hC : Try.prog.cellsOf 64 = 2 := cells64
    have key : ∀ i, ∃ q : Int × Int, i < len → w.cell? (a.add (i * 2)) = some (.int .i64 q.1) ∧ w.cell? ((a.add (i * 2)).add 1) = some (.int .i64 q.2) := fun i => by
      by_cases hlt : i < len
      · obtain ⟨cs', hc, ht⟩ := hi i (by omega)
        rw [hC] at hc
        obtain ⟨_, hcl, hat⟩ := World.cells?_some hc
        match cs', hcl with
        | [c0, c1], _ =>
          obtain ⟨x, y, rfl, rfl⟩ := read_peg ht
          have h0 := hat 0 (by omega)
          have h1 := hat 1 (by omega)
          refine ⟨(x, y), fun _ => ⟨?_, h1⟩⟩
          have : (a.add (i * 2)).add 0 = a.add (i * 2) := by unfold Addr.add; simp
          rw [this] at h0
          exact h0
      · exact ⟨(0, 0), fun h => absurd h hlt⟩
    refine ⟨some a, cap, (List.range len).map fun i => Classical.choose (key i), by simp, by simpa using hl, hm, fun hpos => ?_⟩
    have hpos' : 0 < len := by simpa using hpos
    have k0 := (Classical.choose_spec (key 0) hpos').1
    obtain ⟨b, off, spot⟩ := a
    have hspot : spot = none := by simpa [Addr.add] using World.cell?_spot k0
    subst hspot
    refine ⟨b, off, rfl, ?_, fun i q hq => ?_⟩
    · have := lt_of_cell k0
      rw [add_plain] at this
      exact this
    · have hlt : i < len := by
        have := (List.getElem?_eq_some_iff.1 hq).1
        simpa using this
      have e : q = Classical.choose (key i) := by
        rw [List.getElem?_map, List.getElem?_range hlt] at hq
        simpa using hq.symm
      have hs := Classical.choose_spec (key i) hlt
      rw [← e] at hs
      rw [add_plain, add_plain] at hs
      exact hs
end
end Go.Proofs.Ytheddoinnakneaa
/- lists of numbers that are read; l1All at any of them; moves of the model -/
namespace Go.Proofs.Ytheddoinnakneaa
open Go.ChangeShapes Go.WideShapes Go.ChangeAt Go.RowKit Go.Joins
set_option linter.unusedVariables false
set_option linter.unusedSimpArgs false
set_option maxRecDepth 4000
/-- the slice's cells from address A on hold the numbers f 0, .., f (n - 1), below block z -/
def RdI (w : World) (z : Nat) (A : Option Addr) (n : Nat) (f : Nat → Int) : Prop :=
  0 < n → ∃ b off, A = some ⟨b, off, none⟩ ∧ b < z ∧ ∀ i, i < n → w.cell? ⟨b, off + i, none⟩ = some (.int .i64 (f i))
theorem rdi_below {w w' : World} {z : Nat} {A : Option Addr} {n : Nat} {f : Nat → Int} (h : RdI w z A n f) (hb : Below w.heap.size w w') (hz : z ≤ w.heap.size) : RdI w' w'.heap.size A n f := fun hn => by
  obtain ⟨b, off, e, h1, h2⟩ := h hn
  have := hb.size
  exact ⟨b, off, e, by omega, fun i hi => ((bcell hb).1 _ _ (by omega)).trans (h2 i hi)⟩
def inQ (lo hi k : Int) : Bool := decide (lo ≤ k) && decide (k ≤ hi)
def allIn (lo hi : Int) (f : Nat → Int) : Nat → Bool
  | 0 => true
  | n + 1 => allIn lo hi f n && inQ lo hi (f n)
theorem allIn_false {lo hi : Int} {f : Nat → Int} {k n : Nat} (h : k < n) (hf : inQ lo hi (f k) = false) : allIn lo hi f n = false := by
  induction n with
  | zero => omega
  | succ m ih =>
    by_cases hk : k = m
    · subst hk; show (_ && _) = false; rw [hf]; simp
    · show (_ && _) = false; rw [ih (by omega)]; rfl
set_option maxHeartbeats 1000000 in
theorem l1All_any (A : Option Addr) (c n : Nat) (f : Nat → Int) (lo hi : Int) (w : World) (hn : n ≤ 1048576) (hR : RdI w w.heap.size A n f) :
    Calls Try.prog 134 #[.slice A n c, .int .i64 lo, .int .i64 hi] w fun e w' => e = .returned (.bool (allIn lo hi f n)) ∧ Below w.heap.size w w' := by
  have KI := Lib.hid (fun x W => l1In_any x lo hi W)
  have HR := Lib.hid (fun W (hb : Below w.heap.size w W) => rdi_below hR hb (Nat.le_refl _))
  clear hR
  go_enter Try.func134, Try.ntmps134
  go_wp2_with fail
  go_loopg [11] n (fun g i wr => ∃ k : Nat, k ≤ n ∧ g = n - k ∧ i = .int .i64 k ∧ Below w.heap.size w wr ∧ Hid (allIn lo hi f k = true))
  case atStart => exact ⟨0, Nat.zero_le _, rfl, rfl, Below.refl _ _, Lib.hid rfl⟩
  case round =>
    obtain ⟨k, hk, hg, rfl, hB, hF⟩ := hrel
    rename World => wo
    have HGK := Lib.hid hg
    clear hg
    by_cases hkn : k < n
    · obtain ⟨b, off, rfl, hb, hc⟩ := HR.out wo hB (by omega)
      have h0 := hc k hkn
      by_cases hq : inQ lo hi (f k) = true
      · have HN := Lib.hid hq
        unfold inQ at hq
        have F2 := Lib.hid (show allIn lo hi f (k + 1) = true by show (_ && _) = true; rw [hF.out, HN.out]; rfl)
        clear hc HR hF
        go_wp2_with fail
        refine (KI.out _ _).mono ?_; rintro e _ ⟨rfl, rfl⟩
        rw [hq]
        clear hq
        go_wp2_with fail
        go_roundg (n - (k + 1))
        case measure => have := HGK.out; omega
        case rel => exact ⟨k + 1, by omega, rfl, by go_num, hB, F2⟩
      · have hq2 : inQ lo hi (f k) = false := by simpa using hq
        have HN := Lib.hid (allIn_false (n := n) hkn hq2)
        unfold inQ at hq2
        clear hq hc HR hF
        go_wp2_with fail
        refine (KI.out _ _).mono ?_; rintro e _ ⟨rfl, rfl⟩
        rw [hq2]
        clear hq2
        go_wp2_with fail
        go_ret
        exact ⟨ret_bool HN.out.symm, hB⟩
    · have hkn : n = k := by omega
      subst hkn
      go_wp2_with fail
      go_ret
      exact ⟨ret_bool hF.out.symm, hB⟩
end Go.Proofs.Ytheddoinnakneaa
/- contracts: what is a move, the model -/
namespace Go.Proofs.Ytheddoinnakneaa
open Go.ChangeShapes Go.WideShapes Go.ChangeAt Go.RowKit Go.Joins
set_option linter.unusedVariables false
set_option linter.unusedSimpArgs false
set_option maxRecDepth 4000
def q4 (a b c d : Int) : Nat → Int
  | 0 => a | 1 => b | 2 => c | _ => d
def q2 (x y : Int) : Nat → Int
  | 0 => x | _ => y
def boxM (a b c d x y : Int) : Bool := allIn (-20) 20 (q4 a b c d) 4 && allIn (-80) 80 (q2 x y) 2
def goodM (a b c d x y : Int) : Bool := boxM a b c d x y && decide (((a * d - b * c).natAbs : Int) = 1)
theorem all4 (a b c d : Int) (lo hi : Int) : allIn lo hi (q4 a b c d) 4 = (inQ lo hi a && inQ lo hi b && inQ lo hi c && inQ lo hi d) := rfl
theorem all2 (a b : Int) (lo hi : Int) : allIn lo hi (q2 a b) 2 = (inQ lo hi a && inQ lo hi b) := rfl
theorem all4_bd {a b c d : Int} (h : allIn (-20) 20 (q4 a b c d) 4 = true) : (-20 ≤ a ∧ a ≤ 20) ∧ (-20 ≤ b ∧ b ≤ 20) ∧ (-20 ≤ c ∧ c ≤ 20) ∧ (-20 ≤ d ∧ d ≤ 20) := by
  rw [all4] at h; unfold inQ at h; simp only [Bool.and_eq_true, decide_eq_true_eq] at h; omega
theorem wide4 {a b c d : Int} (h : allIn (-20) 20 (q4 a b c d) 4 = true) : (-10000000 ≤ a ∧ a ≤ 10000000) ∧ (-10000000 ≤ b ∧ b ≤ 10000000) ∧ (-10000000 ≤ c ∧ c ≤ 10000000) ∧ (-10000000 ≤ d ∧ d ≤ 10000000) := by
  have := all4_bd h; omega
theorem all2_bd {x y : Int} (h : allIn (-80) 80 (q2 x y) 2 = true) : (-80 ≤ x ∧ x ≤ 80) ∧ (-80 ≤ y ∧ y ≤ 80) := by
  rw [all2] at h; unfold inQ at h; simp only [Bool.and_eq_true, decide_eq_true_eq] at h; omega
/-- the products of a move's side are small -/
theorem side_bd {a b c d : Int} (h : allIn (-20) 20 (q4 a b c d) 4 = true) : (-400 ≤ a * d ∧ a * d ≤ 400) ∧ (-400 ≤ b * c ∧ b * c ≤ 400) := by
  obtain ⟨⟨h1, h2⟩, ⟨h3, h4⟩, ⟨h5, h6⟩, ⟨h7, h8⟩⟩ := all4_bd h
  have m1 := mul_bd (x := a) (y := d) (m := 20) (n := 20) (by omega) (by omega) (by omega) (by omega)
  have m2 := mul_bd (x := b) (y := c) (m := 20) (n := 20) (by omega) (by omega) (by omega) (by omega)
  omega
theorem rdi4 {w : World} {g : Nat} {a b c d : Int} (hz : g < w.heap.size) (h0 : w.cell? ⟨g, 0, none⟩ = some (.int .i64 a)) (h1 : w.cell? ⟨g, 1, none⟩ = some (.int .i64 b)) (h2 : w.cell? ⟨g, 2, none⟩ = some (.int .i64 c)) (h3 : w.cell? ⟨g, 3, none⟩ = some (.int .i64 d)) :
    RdI w w.heap.size (some ⟨g, 0, none⟩) 4 (q4 a b c d) := fun _ => ⟨g, 0, rfl, hz, fun i hi => by
  rw [Nat.zero_add]
  rcases (show i = 0 ∨ i = 1 ∨ i = 2 ∨ i = 3 by omega) with rfl | rfl | rfl | rfl <;> assumption⟩
theorem rdi2 {w : World} {g : Nat} {a b : Int} (hz : g < w.heap.size) (h0 : w.cell? ⟨g, 0, none⟩ = some (.int .i64 a)) (h1 : w.cell? ⟨g, 1, none⟩ = some (.int .i64 b)) :
    RdI w w.heap.size (some ⟨g, 0, none⟩) 2 (q2 a b) := fun _ => ⟨g, 0, rfl, hz, fun i hi => by
  rw [Nat.zero_add]
  rcases (show i = 0 ∨ i = 1 by omega) with rfl | rfl <;> assumption⟩
/-- six numbers of a move in memory -/
def At6 (w : World) (g : Nat) (a b c d x y : Int) : Prop := g < w.heap.size ∧ w.cell? ⟨g, 0, none⟩ = some (.int .i64 a) ∧ w.cell? ⟨g, 1, none⟩ = some (.int .i64 b) ∧ w.cell? ⟨g, 2, none⟩ = some (.int .i64 c) ∧ w.cell? ⟨g, 3, none⟩ = some (.int .i64 d) ∧ w.cell? ⟨g, 4, none⟩ = some (.int .i64 x) ∧ w.cell? ⟨g, 5, none⟩ = some (.int .i64 y)
theorem at6_below {w w' : World} {g : Nat} {a b c d x y : Int} (h : At6 w g a b c d x y) {B : Nat} (hb : Below B w w') (hg : g < B) : At6 w' g a b c d x y := by
  obtain ⟨h0, h1, h2, h3, h4, h5, h6⟩ := h
  have k := fun o => hb.cell (p := ⟨g, o, none⟩) hg
  have := hb.size
  exact ⟨by omega, (k _).trans h1, (k _).trans h2, (k _).trans h3, (k _).trans h4, (k _).trans h5, (k _).trans h6⟩
set_option maxHeartbeats 1000000 in
theorem mvGood_any (a b c d x y : Int) (w : World) :
    Calls Try.prog 99 #[.agg #[.int .i64 a, .int .i64 b, .int .i64 c, .int .i64 d, .int .i64 x, .int .i64 y]] w fun e w' => e = .returned (.bool (goodM a b c d x y)) ∧ Below w.heap.size w w' := by
  have KA := Lib.hid (fun (A : Option Addr) W h => l1All_any A 4 4 (q4 a b c d) (-20) 20 W (by omega) h)
  have KB := Lib.hid (fun (A : Option Addr) W h => l1All_any A 2 2 (q2 x y) (-80) 80 W (by omega) h)
  by_cases h4 : allIn (-20) 20 (q4 a b c d) 4 = true
  · by_cases h2 : allIn (-80) 80 (q2 x y) 2 = true
    · have e : goodM a b c d x y = decide (((a * d - b * c).natAbs : Int) = 1) := by unfold goodM boxM; rw [h4, h2]; rfl
      obtain ⟨⟨u1, u2⟩, ⟨u3, u4⟩⟩ := side_bd h4
      have KC := Lib.hid (fun W => l1Abs_any (a * d - b * c) W (by omega) (by omega))
      rw [e]
      rw [h4] at KA
      rw [h2] at KB
      clear e h4 h2
      by_cases hs : ((a * d - b * c).natAbs : Int) = 1
      all_goals
        go_enter Try.func99, Try.ntmps99
        go_wp2_with fail
        obtain ⟨W1, hW1⟩ : ∃ W1, W1 = ((w.alloc (.cells #[.int .i64 a, .int .i64 b, .int .i64 c, .int .i64 d, .int .i64 x, .int .i64 y] 41)).alloc (.cells #[.int .i64 a, .int .i64 b, .int .i64 c, .int .i64 d] 3)) := ⟨_, rfl⟩
        rw [← hW1]
        have yW10_0 : W1.cell? ⟨w.heap.size, 0, none⟩ = some (.int .i64 a) := by rw [hW1]; go_simp
        have yW10_1 : W1.cell? ⟨w.heap.size, 1, none⟩ = some (.int .i64 b) := by rw [hW1]; go_simp
        have yW10_2 : W1.cell? ⟨w.heap.size, 2, none⟩ = some (.int .i64 c) := by rw [hW1]; go_simp
        have yW10_3 : W1.cell? ⟨w.heap.size, 3, none⟩ = some (.int .i64 d) := by rw [hW1]; go_simp
        have yW10_4 : W1.cell? ⟨w.heap.size, 4, none⟩ = some (.int .i64 x) := by rw [hW1]; go_simp
        have yW10_5 : W1.cell? ⟨w.heap.size, 5, none⟩ = some (.int .i64 y) := by rw [hW1]; go_simp
        have fW10 : ∀ o, W1.frozen? ⟨w.heap.size, o, none⟩ = false := by intro o; rw [hW1]; (repeat rw [frozen?_alloc_cells]); simp [World.frozen?]
        have zW10 : w.heap.size < W1.heap.size := by rw [hW1]; simp <;> omega
        have yW11_0 : W1.cell? ⟨w.heap.size + 1, 0, none⟩ = some (.int .i64 a) := by rw [hW1]; go_simp
        have yW11_1 : W1.cell? ⟨w.heap.size + 1, 1, none⟩ = some (.int .i64 b) := by rw [hW1]; go_simp
        have yW11_2 : W1.cell? ⟨w.heap.size + 1, 2, none⟩ = some (.int .i64 c) := by rw [hW1]; go_simp
        have yW11_3 : W1.cell? ⟨w.heap.size + 1, 3, none⟩ = some (.int .i64 d) := by rw [hW1]; go_simp
        have fW11 : ∀ o, W1.frozen? ⟨w.heap.size + 1, o, none⟩ = false := by intro o; rw [hW1]; (repeat rw [frozen?_alloc_cells]); simp [World.frozen?]
        have zW11 : w.heap.size + 1 < W1.heap.size := by rw [hW1]; simp <;> omega
        have BW1 : Below w.heap.size w W1 := by rw [hW1]; exact (Below.alloc (Below.alloc (Below.refl _ _) (by simp <;> omega) _) (by simp <;> omega) _)
        have eW1 : Hid (W1.heap.size = w.heap.size + 2) := Lib.hid (by rw [hW1]; simp)
        clear hW1
        have Z1 := eW1.out
        have E1 := Lib.hid (at6_below (B := W1.heap.size) (w := W1) (w' := W1) ⟨by omega, yW10_0, yW10_1, yW10_2, yW10_3, yW10_4, yW10_5⟩ (Below.refl _ _) (by omega))
        refine (KA.out _ _ (rdi4 (by omega) yW11_0 yW11_1 yW11_2 yW11_3)).mono ?_; rintro e w2 ⟨rfl, hb2⟩
        have B2 := BW1.trans (hb2.mono (by omega))
        have E2 := at6_below E1.out hb2 (by omega)
        clear yW10_0 yW10_1 yW10_2 yW10_3 yW10_4 yW10_5 yW11_0 yW11_1 yW11_2 yW11_3 fW10 fW11 zW10 zW11 BW1 E1 eW1 Z1 hb2
        obtain ⟨z2, y0, y1, y2, y3, y4, y5⟩ := E2
        have E2 := Lib.hid (show At6 w2 w.heap.size a b c d x y from ⟨z2, y0, y1, y2, y3, y4, y5⟩)
        go_wp2_with fail
        obtain ⟨W3, hW3⟩ : ∃ W3, W3 = (w2.alloc (.cells #[.int .i64 x, .int .i64 y] 3)) := ⟨_, rfl⟩
        rw [← hW3]
        have yW30_0 : W3.cell? ⟨w2.heap.size, 0, none⟩ = some (.int .i64 x) := by rw [hW3]; go_simp
        have yW30_1 : W3.cell? ⟨w2.heap.size, 1, none⟩ = some (.int .i64 y) := by rw [hW3]; go_simp
        have fW30 : ∀ o, W3.frozen? ⟨w2.heap.size, o, none⟩ = false := by intro o; rw [hW3]; (repeat rw [frozen?_alloc_cells]); simp [World.frozen?]
        have zW30 : w2.heap.size < W3.heap.size := by rw [hW3]; simp <;> omega
        have BW3 : Below w2.heap.size w2 W3 := by rw [hW3]; exact (Below.alloc (Below.refl _ _) (by simp <;> omega) _)
        have eW3 : Hid (W3.heap.size = w2.heap.size + 1) := Lib.hid (by rw [hW3]; simp)
        clear hW3
        have Z3 := eW3.out
        refine (KB.out _ _ (rdi2 (by omega) yW30_0 yW30_1)).mono ?_; rintro e w4 ⟨rfl, hb4⟩
        have E4 := at6_below (at6_below E2.out BW3 z2) hb4 (by omega)
        have B4 := (B2.trans (BW3.mono B2.size)).trans (hb4.mono (by have := B2.size; omega))
        clear y0 y1 y2 y3 y4 y5 E2 z2 B2 BW3 hb4 yW30_0 yW30_1 fW30 zW30 eW3 Z3
        obtain ⟨z2, y0, y1, y2, y3, y4, y5⟩ := E4
        go_wp2_with fail
        refine (KC.out _).mono ?_; rintro e _ ⟨rfl, rfl⟩
        go_wp2_with fail
        go_ret
        exact ⟨ret_bool (by simp [hs]), B4⟩
    · have h2 : allIn (-80) 80 (q2 x y) 2 = false := by simpa using h2
      have e : goodM a b c d x y = false := by unfold goodM boxM; rw [h4, h2]; rfl
      rw [e]
      rw [h4] at KA
      rw [h2] at KB
      clear e h4 h2
      go_enter Try.func99, Try.ntmps99
      go_wp2_with fail
      obtain ⟨W1, hW1⟩ : ∃ W1, W1 = ((w.alloc (.cells #[.int .i64 a, .int .i64 b, .int .i64 c, .int .i64 d, .int .i64 x, .int .i64 y] 41)).alloc (.cells #[.int .i64 a, .int .i64 b, .int .i64 c, .int .i64 d] 3)) := ⟨_, rfl⟩
      rw [← hW1]
      have yW10_0 : W1.cell? ⟨w.heap.size, 0, none⟩ = some (.int .i64 a) := by rw [hW1]; go_simp
      have yW10_1 : W1.cell? ⟨w.heap.size, 1, none⟩ = some (.int .i64 b) := by rw [hW1]; go_simp
      have yW10_2 : W1.cell? ⟨w.heap.size, 2, none⟩ = some (.int .i64 c) := by rw [hW1]; go_simp
      have yW10_3 : W1.cell? ⟨w.heap.size, 3, none⟩ = some (.int .i64 d) := by rw [hW1]; go_simp
      have yW10_4 : W1.cell? ⟨w.heap.size, 4, none⟩ = some (.int .i64 x) := by rw [hW1]; go_simp
      have yW10_5 : W1.cell? ⟨w.heap.size, 5, none⟩ = some (.int .i64 y) := by rw [hW1]; go_simp
      have fW10 : ∀ o, W1.frozen? ⟨w.heap.size, o, none⟩ = false := by intro o; rw [hW1]; (repeat rw [frozen?_alloc_cells]); simp [World.frozen?]
      have zW10 : w.heap.size < W1.heap.size := by rw [hW1]; simp <;> omega
      have yW11_0 : W1.cell? ⟨w.heap.size + 1, 0, none⟩ = some (.int .i64 a) := by rw [hW1]; go_simp
      have yW11_1 : W1.cell? ⟨w.heap.size + 1, 1, none⟩ = some (.int .i64 b) := by rw [hW1]; go_simp
      have yW11_2 : W1.cell? ⟨w.heap.size + 1, 2, none⟩ = some (.int .i64 c) := by rw [hW1]; go_simp
      have yW11_3 : W1.cell? ⟨w.heap.size + 1, 3, none⟩ = some (.int .i64 d) := by rw [hW1]; go_simp
      have fW11 : ∀ o, W1.frozen? ⟨w.heap.size + 1, o, none⟩ = false := by intro o; rw [hW1]; (repeat rw [frozen?_alloc_cells]); simp [World.frozen?]
      have zW11 : w.heap.size + 1 < W1.heap.size := by rw [hW1]; simp <;> omega
      have BW1 : Below w.heap.size w W1 := by rw [hW1]; exact (Below.alloc (Below.alloc (Below.refl _ _) (by simp <;> omega) _) (by simp <;> omega) _)
      have eW1 : Hid (W1.heap.size = w.heap.size + 2) := Lib.hid (by rw [hW1]; simp)
      clear hW1
      have Z1 := eW1.out
      have E1 := Lib.hid (at6_below (B := W1.heap.size) (w := W1) (w' := W1) ⟨by omega, yW10_0, yW10_1, yW10_2, yW10_3, yW10_4, yW10_5⟩ (Below.refl _ _) (by omega))
      refine (KA.out _ _ (rdi4 (by omega) yW11_0 yW11_1 yW11_2 yW11_3)).mono ?_; rintro e w2 ⟨rfl, hb2⟩
      have B2 := BW1.trans (hb2.mono (by omega))
      have E2 := at6_below E1.out hb2 (by omega)
      clear yW10_0 yW10_1 yW10_2 yW10_3 yW10_4 yW10_5 yW11_0 yW11_1 yW11_2 yW11_3 fW10 fW11 zW10 zW11 BW1 E1 eW1 Z1 hb2
      obtain ⟨z2, y0, y1, y2, y3, y4, y5⟩ := E2
      have E2 := Lib.hid (show At6 w2 w.heap.size a b c d x y from ⟨z2, y0, y1, y2, y3, y4, y5⟩)
      go_wp2_with fail
      obtain ⟨W3, hW3⟩ : ∃ W3, W3 = (w2.alloc (.cells #[.int .i64 x, .int .i64 y] 3)) := ⟨_, rfl⟩
      rw [← hW3]
      have yW30_0 : W3.cell? ⟨w2.heap.size, 0, none⟩ = some (.int .i64 x) := by rw [hW3]; go_simp
      have yW30_1 : W3.cell? ⟨w2.heap.size, 1, none⟩ = some (.int .i64 y) := by rw [hW3]; go_simp
      have fW30 : ∀ o, W3.frozen? ⟨w2.heap.size, o, none⟩ = false := by intro o; rw [hW3]; (repeat rw [frozen?_alloc_cells]); simp [World.frozen?]
      have zW30 : w2.heap.size < W3.heap.size := by rw [hW3]; simp <;> omega
      have BW3 : Below w2.heap.size w2 W3 := by rw [hW3]; exact (Below.alloc (Below.refl _ _) (by simp <;> omega) _)
      have eW3 : Hid (W3.heap.size = w2.heap.size + 1) := Lib.hid (by rw [hW3]; simp)
      clear hW3
      have Z3 := eW3.out
      refine (KB.out _ _ (rdi2 (by omega) yW30_0 yW30_1)).mono ?_; rintro e w4 ⟨rfl, hb4⟩
      have B4 := (B2.trans (BW3.mono B2.size)).trans (hb4.mono (by have := B2.size; omega))
      clear y0 y1 y2 y3 y4 y5 E2 z2 B2 BW3 hb4 yW30_0 yW30_1 fW30 zW30 eW3 Z3
      go_wp2_with fail
      go_ret
      exact ⟨rfl, B4⟩
  · have h4 : allIn (-20) 20 (q4 a b c d) 4 = false := by simpa using h4
    have e : goodM a b c d x y = false := by unfold goodM boxM; rw [h4]; rfl
    rw [e]
    rw [h4] at KA
    clear e h4 KB
    go_enter Try.func99, Try.ntmps99
    go_wp2_with fail
    obtain ⟨W1, hW1⟩ : ∃ W1, W1 = ((w.alloc (.cells #[.int .i64 a, .int .i64 b, .int .i64 c, .int .i64 d, .int .i64 x, .int .i64 y] 41)).alloc (.cells #[.int .i64 a, .int .i64 b, .int .i64 c, .int .i64 d] 3)) := ⟨_, rfl⟩
    rw [← hW1]
    have yW10_0 : W1.cell? ⟨w.heap.size, 0, none⟩ = some (.int .i64 a) := by rw [hW1]; go_simp
    have yW10_1 : W1.cell? ⟨w.heap.size, 1, none⟩ = some (.int .i64 b) := by rw [hW1]; go_simp
    have yW10_2 : W1.cell? ⟨w.heap.size, 2, none⟩ = some (.int .i64 c) := by rw [hW1]; go_simp
    have yW10_3 : W1.cell? ⟨w.heap.size, 3, none⟩ = some (.int .i64 d) := by rw [hW1]; go_simp
    have yW10_4 : W1.cell? ⟨w.heap.size, 4, none⟩ = some (.int .i64 x) := by rw [hW1]; go_simp
    have yW10_5 : W1.cell? ⟨w.heap.size, 5, none⟩ = some (.int .i64 y) := by rw [hW1]; go_simp
    have fW10 : ∀ o, W1.frozen? ⟨w.heap.size, o, none⟩ = false := by intro o; rw [hW1]; (repeat rw [frozen?_alloc_cells]); simp [World.frozen?]
    have zW10 : w.heap.size < W1.heap.size := by rw [hW1]; simp <;> omega
    have yW11_0 : W1.cell? ⟨w.heap.size + 1, 0, none⟩ = some (.int .i64 a) := by rw [hW1]; go_simp
    have yW11_1 : W1.cell? ⟨w.heap.size + 1, 1, none⟩ = some (.int .i64 b) := by rw [hW1]; go_simp
    have yW11_2 : W1.cell? ⟨w.heap.size + 1, 2, none⟩ = some (.int .i64 c) := by rw [hW1]; go_simp
    have yW11_3 : W1.cell? ⟨w.heap.size + 1, 3, none⟩ = some (.int .i64 d) := by rw [hW1]; go_simp
    have fW11 : ∀ o, W1.frozen? ⟨w.heap.size + 1, o, none⟩ = false := by intro o; rw [hW1]; (repeat rw [frozen?_alloc_cells]); simp [World.frozen?]
    have zW11 : w.heap.size + 1 < W1.heap.size := by rw [hW1]; simp <;> omega
    have BW1 : Below w.heap.size w W1 := by rw [hW1]; exact (Below.alloc (Below.alloc (Below.refl _ _) (by simp <;> omega) _) (by simp <;> omega) _)
    have eW1 : Hid (W1.heap.size = w.heap.size + 2) := Lib.hid (by rw [hW1]; simp)
    clear hW1
    have Z1 := eW1.out
    refine (KA.out _ _ (rdi4 (by omega) yW11_0 yW11_1 yW11_2 yW11_3)).mono ?_; rintro e w2 ⟨rfl, hb2⟩
    have B2 := BW1.trans (hb2.mono (by omega))
    clear yW10_0 yW10_1 yW10_2 yW10_3 yW10_4 yW10_5 yW11_0 yW11_1 yW11_2 yW11_3 fW10 fW11 zW10 zW11 BW1 eW1 Z1 hb2
    go_wp2_with fail
    go_ret
    exact ⟨rfl, B2⟩
end Go.Proofs.Ytheddoinnakneaa

