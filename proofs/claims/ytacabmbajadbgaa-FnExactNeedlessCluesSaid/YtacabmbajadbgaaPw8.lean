/- contracts: NeedlessClues, on both sides; slices.Equal of points -/
import Derived.Test.YtacabmbajadbgaaPw6
import Derived.Test.YtacabmbajadbgaaPw3
namespace Go.Proofs.Ytacabmbajadbgaa
open Go.ChangeShapes Go.WideShapes Go.ChangeAt Go.RowKit Go.Joins
set_option linter.unusedVariables false
set_option linter.unusedSimpArgs false
set_option maxRecDepth 4000
theorem pt_ext {l m : List (Int × Int)} (hl : l.length = m.length) (h : ∀ i, i < l.length → pt l i = pt m i) : l = m := by
  apply List.ext_getElem? 
  intro i
  rcases Nat.lt_or_ge i l.length with hi | hi
  · rw [pt_get hi, pt_get (by omega), h i hi]
  · rw [List.getElem?_eq_none hi, List.getElem?_eq_none (by omega)]
theorem allF_wo {f : Nat → Int} {n k : Nat} (hk : k < n) {p1 p2 : Int} (h : allF f p1 p2 n = true) : allF (woF f k) p1 p2 (n - 1) = true := by
  rw [allF_iff] at h ⊢
  intro i hi
  rcases Nat.lt_or_ge i k with g | g
  · have := h i (by omega)
    unfold woF
    rw [if_pos (by omega), if_pos (by omega), if_pos (by omega), if_pos (by omega)]
    exact this
  · have := h (i + 1) (by omega)
    unfold woF
    rw [if_neg (by omega), if_neg (by omega), if_neg (by omega), if_neg (by omega), show i * 4 + 4 = (i + 1) * 4 by omega, show i * 4 + 1 + 4 = (i + 1) * 4 + 1 by omega, show i * 4 + 2 + 4 = (i + 1) * 4 + 2 by omega, show i * 4 + 3 + 4 = (i + 1) * 4 + 3 by omega]
    exact this
theorem filter_sub {α : Type} {p q : α → Bool} (h : ∀ x, p x = true → q x = true) : ∀ l : List α, (l.filter p).Sublist (l.filter q)
  | [] => List.Sublist.slnil
  | x :: l => by
    rw [List.filter_cons, List.filter_cons]
    cases hp : p x
    · cases hq : q x
      · exact filter_sub h l
      · exact (filter_sub h l).cons _
    · rw [h x hp]
      exact (filter_sub h l).cons_cons _
theorem solK_wo {f : Nat → Int} {n k m j : Nat} (hk : k < n) : (solK f n m j).Sublist (solK (woF f k) (n - 1) m j) := by
  unfold solK
  exact filter_sub (fun p hp => allF_wo hk hp) _
/-- is clue number k needless? -/
noncomputable def ndB (ns n : Nat) (f : Nat → Int) (k : Nat) : Bool := decide ((solK (woF f k) (n - 1) (ns + 1) ((ns + 1) * (ns + 1))).length = (solK f n (ns + 1) ((ns + 1) * (ns + 1))).length)
theorem nd_eq {ns n : Nat} {f : Nat → Int} {k : Nat} (hk : k < n) : decide (solK (woF f k) (n - 1) (ns + 1) ((ns + 1) * (ns + 1)) = solK f n (ns + 1) ((ns + 1) * (ns + 1))) = ndB ns n f k := by
  unfold ndB
  rw [decide_eq_decide]
  constructor
  · intro h; rw [h]
  · intro h
    exact ((solK_wo hk).eq_of_length h.symm).symm
noncomputable def ndL (ns n : Nat) (f : Nat → Int) (k : Nat) : List Int := ((List.range k).filter (ndB ns n f)).map fun (i : Nat) => (i : Int)
theorem ndL_yes {ns n : Nat} {f : Nat → Int} {k : Nat} (h : ndB ns n f k = true) : ndL ns n f (k + 1) = ndL ns n f k ++ [(k : Int)] := by
  unfold ndL
  rw [List.range_succ, List.filter_append, List.map_append, List.filter_cons, if_pos h]
  rfl
theorem ndL_no {ns n : Nat} {f : Nat → Int} {k : Nat} (h : ndB ns n f k = false) : ndL ns n f (k + 1) = ndL ns n f k := by
  unfold ndL
  rw [List.range_succ, List.filter_append, List.map_append, List.filter_cons, if_neg (by rw [h]; simp)]
  simp
theorem ndL_len (ns n : Nat) (f : Nat → Int) (k : Nat) : (ndL ns n f k).length ≤ k := by
  unfold ndL
  rw [List.length_map]
  exact Nat.le_trans (List.length_filter_le _ _) (by rw [List.length_range]; exact Nat.le_refl _)
noncomputable def ndP (s : Int) (n : Nat) (f : Nat → Int) : List Int := if puzB s n f = true then ndL s.toNat n f n else []
theorem ndP_len (s : Int) (n : Nat) (f : Nat → Int) : (ndP s n f).length ≤ 1048576 := by
  unfold ndP
  split
  · rename_i h
    have := (puzB_t h).2.2.1
    have := ndL_len s.toNat n f n
    omega
  · simp
set_option maxHeartbeats 2000000 in
theorem slEqual_any (A A' : Option Addr) (c c' lo B lo' B' : Nat) (l m : List (Int × Int)) (w : World) (hl : l.length ≤ 1048576) (hm : m.length ≤ 1048576) (hB : B ≤ w.heap.size) (hB' : B' ≤ w.heap.size) (hR : Rw w lo B A l.length (pt l)) (hR' : Rw w lo' B' A' m.length (pt m)) :
    Calls Try.prog 70 #[.slice A l.length c, .slice A' m.length c'] w fun e w' => e = .returned (.bool (decide (l = m))) ∧ Below w.heap.size w w' := by
  by_cases hlm : l.length = m.length
  rotate_left
  · have hne : ¬ (l.length : Int) = (m.length : Int) := by omega
    rw [decide_eq_false (fun e => hlm (by rw [e]))]
    clear hR hR'
    generalize l.length = x at *
    generalize m.length = y at *
    go_enter Try.func70, Try.ntmps70
    go_wp2_with fail
    go_ret
    exact ⟨rfl, Below.refl _ _⟩
  · have HT : Hid ((∀ i, i < l.length → pt l i = pt m i) → true = decide (l = m)) := Lib.hid (fun h => (decide_eq_true (pt_ext hlm h)).symm)
    have HF : Hid (∀ i, pt l i ≠ pt m i → false = decide (l = m)) := Lib.hid (fun i h => (decide_eq_false (fun e => h (by rw [e]))).symm)
    have HR := Lib.hid hR
    have HR' := Lib.hid hR'
    rw [← hlm] at HR' ⊢
    generalize decide (l = m) = q at *
    generalize hN : l.length = n at *
    clear hlm hm hR hR' hN
    go_enter Try.func70, Try.ntmps70
    go_wp2_with fail
    go_loopg [13] n (fun gg i wr => ∃ k : Nat, k ≤ n ∧ gg = n - k ∧ i = .int .i64 (k : Int) ∧ Below w.heap.size w wr ∧ Hid (∀ j, j < k → pt l j = pt m j))
    case atStart => exact ⟨0, Nat.zero_le _, rfl, rfl, Below.refl _ _, Lib.hid (fun j h => absurd h (Nat.not_lt_zero _))⟩
    case round =>
      obtain ⟨k, hk, hgg, rfl, hBl, hE⟩ := hrel
      rename World => wo
      have HGK := Lib.hid hgg
      clear hgg
      by_cases hlt : k < n
      · obtain ⟨b, off, rfl, b1, b2, hc⟩ := HR.out (by omega)
        obtain ⟨b', off', rfl, b1', b2', hc'⟩ := HR'.out (by omega)
        obtain ⟨⟨x0, x1⟩, _⟩ := hc k hlt
        obtain ⟨⟨y0, y1⟩, _⟩ := hc' k hlt
        have X0 := (hBl.cell (p := ⟨b, off + k * 2, none⟩) (by show b < w.heap.size; omega)).trans x0
        have X1 := (hBl.cell (p := ⟨b, off + k * 2 + 1, none⟩) (by show b < w.heap.size; omega)).trans x1
        have Y0 := (hBl.cell (p := ⟨b', off' + k * 2, none⟩) (by show b' < w.heap.size; omega)).trans y0
        have Y1 := (hBl.cell (p := ⟨b', off' + k * 2 + 1, none⟩) (by show b' < w.heap.size; omega)).trans y1
        have zz := hBl.size
        have z1 : b < wo.heap.size := by omega
        have z2 : b' < wo.heap.size := by omega
        have HE2 : Hid (pt l k = pt m k → ∀ j, j < k + 1 → pt l j = pt m j) := Lib.hid (fun h j hj => by
          rcases Nat.lt_or_ge j k with g | g
          · exact hE.out j g
          · obtain rfl : j = k := by omega
            exact h)
        have HF2 := Lib.hid (HF.out k)
        clear hc hc' x0 x1 y0 y1 hE
        obtain ⟨p1, p2, hp⟩ : ∃ p1 p2, pt l k = (p1, p2) := ⟨_, _, rfl⟩
        obtain ⟨q1, q2, hq⟩ : ∃ q1 q2, pt m k = (q1, q2) := ⟨_, _, rfl⟩
        rw [hp] at X0 X1 HE2 HF2
        rw [hq] at Y0 Y1 HE2 HF2
        simp only at X0 X1 Y0 Y1
        clear hp hq
        by_cases e1 : p1 = q1
        · subst e1
          by_cases e2 : p2 = q2
          · subst e2
            have HE3 := Lib.hid (HE2.out rfl)
            clear HE2 HF2
            go_wp2_with fail
            go_region
            all_goals
              go_wp2_with fail
              go_roundg (n - (k + 1))
              case measure => have := HGK.out; omega
              case rel => exact ⟨k + 1, by omega, rfl, by go_num, by repeat (first | with_reducible assumption | with_reducible exact Below.refl _ _ | with_reducible apply Below.drew | ((with_reducible refine Below.setCell ?_ ?_ _); rotate_left; (first | exact Nat.le_refl _ | omega | (simp <;> omega))) | ((with_reducible refine Below.alloc ?_ ?_ _); rotate_left; (first | omega | (simp <;> omega)))), HE3⟩
          · have HF3 := Lib.hid (HF2.out (fun h => e2 (by injection h)))
            clear HE2 HF2
            go_wp2_with fail
            go_region
            all_goals
              go_wp2_with fail
              go_ret
              exact ⟨ret_bool HF3.out, by repeat (first | with_reducible assumption | with_reducible exact Below.refl _ _ | with_reducible apply Below.drew | ((with_reducible refine Below.setCell ?_ ?_ _); rotate_left; (first | exact Nat.le_refl _ | omega | (simp <;> omega))) | ((with_reducible refine Below.alloc ?_ ?_ _); rotate_left; (first | omega | (simp <;> omega))))⟩
        · have HF3 := Lib.hid (HF2.out (fun h => e1 (by injection h)))
          clear HE2 HF2
          go_wp2_with fail
          go_region
          all_goals
            go_wp2_with fail
            go_ret
            exact ⟨ret_bool HF3.out, by repeat (first | with_reducible assumption | with_reducible exact Below.refl _ _ | with_reducible apply Below.drew | ((with_reducible refine Below.setCell ?_ ?_ _); rotate_left; (first | exact Nat.le_refl _ | omega | (simp <;> omega))) | ((with_reducible refine Below.alloc ?_ ?_ _); rotate_left; (first | omega | (simp <;> omega))))⟩
      · obtain rfl : k = n := by omega
        have HT2 := Lib.hid (HT.out hE.out)
        go_wp2_with fail
        go_ret
        exact ⟨ret_bool HT2.out, hBl⟩
end Go.Proofs.Ytacabmbajadbgaa
