/- contracts: the circle through a triangle's corners, the model -/
import Derived.Test.YtgjegildeejghaaCa
import Derived.OwnWalk
import Derived.BigRegion
import Derived.Deep.CutRange
namespace Go.Proofs.Ytgjegildeejghaa
open Go.ChangeShapes Go.WideShapes Go.ChangeAt Go.RowKit Go.Joins
set_option linter.unusedVariables false
set_option linter.unusedSimpArgs false
set_option maxRecDepth 4000
def isel (b : Bool) (x : Int) : Int := if b = true then x else 0
theorem isel_t (x : Int) : isel true x = x := rfl
theorem isel_f (x : Int) : isel false x = 0 := rfl
/-- the middle of the circle times twice twice the area -/
def cxI (a1 a2 b1 b2 c1 c2 : Int) : Int := (b2 - c2) * (a1 * a1 + a2 * a2) + (c2 - a2) * (b1 * b1 + b2 * b2) + (a2 - b2) * (c1 * c1 + c2 * c2)
def cyI (a1 a2 b1 b2 c1 c2 : Int) : Int := (c1 - b1) * (a1 * a1 + a2 * a2) + (a1 - c1) * (b1 * b1 + b2 * b2) + (b1 - a1) * (c1 * c1 + c2 * c2)
def cdI (a1 a2 b1 b2 c1 c2 : Int) : Int := 2 * twI a1 a2 b1 b2 c1 c2
/-- the common divisor that the three are divided by, with the sign of d -/
def cgI (x y d : Int) : Int := if d < 0 then -((Nat.gcd (Nat.gcd x.natAbs y.natAbs) d.natAbs : Nat) : Int) else ((Nat.gcd (Nat.gcd x.natAbs y.natAbs) d.natAbs : Nat) : Int)
def sixI (f : Int → Int → Int → Int → Int → Int → Int) (l : List (Int × Int)) : Int := f (vx l 0).1 (vx l 0).2 (vx l 1).1 (vx l 1).2 (vx l 2).1 (vx l 2).2
theorem six_tri {f : Int → Int → Int → Int → Int → Int → Int} {l : List (Int × Int)} {a1 a2 b1 b2 c1 c2 : Int} (h : Tri l a1 a2 b1 b2 c1 c2) : sixI f l = f a1 a2 b1 b2 c1 c2 := by rw [h.1]; rfl
def cirG (l : List (Int × Int)) : Int := cgI (sixI cxI l) (sixI cyI l) (sixI cdI l)
def cirX (l : List (Int × Int)) : Int := (sixI cxI l).tdiv (cirG l)
def cirY (l : List (Int × Int)) : Int := (sixI cyI l).tdiv (cirG l)
def cirD (l : List (Int × Int)) : Int := (sixI cdI l).tdiv (cirG l)
theorem sq80 {x : Int} (h : -80 ≤ x ∧ x ≤ 80) : 0 ≤ x * x ∧ x * x ≤ 6400 := by
  have h1 := mul_bd (x := x) (y := x) (m := 80) (n := 80) (by omega) (by omega) (by omega) (by omega)
  refine ⟨?_, by omega⟩
  rcases Int.le_total 0 x with h | h
  · exact Int.mul_nonneg h h
  · have := Int.mul_nonneg (show 0 ≤ -x by omega) (show 0 ≤ -x by omega)
    rwa [Int.neg_mul_neg] at this
theorem cx_other (a1 a2 b1 b2 c1 c2 : Int) : (c2 - a2) * ((b1 - a1) * (b1 - a1) + (b2 - a2) * (b2 - a2)) - (b2 - a2) * ((c1 - a1) * (c1 - a1) + (c2 - a2) * (c2 - a2)) + a1 * (2 * ((b1 - a1) * (c2 - a2) - (b2 - a2) * (c1 - a1))) = cxI a1 a2 b1 b2 c1 c2 := by unfold cxI; grind
theorem cy_other (a1 a2 b1 b2 c1 c2 : Int) : (b1 - a1) * ((c1 - a1) * (c1 - a1) + (c2 - a2) * (c2 - a2)) - (c1 - a1) * ((b1 - a1) * (b1 - a1) + (b2 - a2) * (b2 - a2)) + a2 * (2 * ((b1 - a1) * (c2 - a2) - (b2 - a2) * (c1 - a1))) = cyI a1 a2 b1 b2 c1 c2 := by unfold cyI; grind
theorem gcd_le_add (m n : Nat) : Nat.gcd m n ≤ m + n := by
  rcases Nat.eq_zero_or_pos m with h | h
  · subst h; simp
  · have := Nat.gcd_le_left n h; omega
theorem tdiv_le (x g : Int) : (x.tdiv g).natAbs ≤ x.natAbs := by rw [Int.natAbs_tdiv]; exact Nat.div_le_self _ _
theorem cg_pos {X Y D : Int} (h : ¬ D < 0) : cgI X Y D = ((Nat.gcd ((Nat.gcd X.natAbs Y.natAbs : Nat) : Int).natAbs D.natAbs : Nat) : Int) := by
  unfold cgI
  rw [if_neg h, Int.natAbs_natCast]
theorem cg_neg {X Y D : Int} (h : D < 0) : cgI X Y D = -((Nat.gcd ((Nat.gcd (-X).natAbs (-Y).natAbs : Nat) : Int).natAbs (-D).natAbs : Nat) : Int) := by
  unfold cgI
  rw [if_pos h, Int.natAbs_natCast, Int.natAbs_neg, Int.natAbs_neg, Int.natAbs_neg]
set_option maxHeartbeats 4000000 in
theorem specCircle_walk (b off c : Nat) (a1 a2 b1 b2 c1 c2 : Int) (w : World) (hc2 : c ≤ 9223372036854775807) (hb : b < w.heap.size)
    (ha1 : -40 ≤ a1 ∧ a1 ≤ 40) (ha2 : -40 ≤ a2 ∧ a2 ≤ 40) (hb1' : -40 ≤ b1 ∧ b1 ≤ 40) (hb2' : -40 ≤ b2 ∧ b2 ≤ 40) (hc1' : -40 ≤ c1 ∧ c1 ≤ 40) (hc2' : -40 ≤ c2 ∧ c2 ≤ 40)
    (hd : twI a1 a2 b1 b2 c1 c2 ≠ 0)
    (K : Hid (Calls Try.prog 53 #[.slice (some ⟨b, off, none⟩) 3 c] w fun e w' => e = .returned (.bool true) ∧ Below w.heap.size w w'))
    (H3 : Hid (∀ W, Below w.heap.size w W → Rd3 W b off a1 a2 b1 b2 c1 c2)) :
    Calls Try.prog 42 #[.slice (some ⟨b, off, none⟩) 3 c] w fun e w' => e = .returned (.tuple #[.int .i64 ((cxI a1 a2 b1 b2 c1 c2).tdiv (cgI (cxI a1 a2 b1 b2 c1 c2) (cyI a1 a2 b1 b2 c1 c2) (cdI a1 a2 b1 b2 c1 c2))), .int .i64 ((cyI a1 a2 b1 b2 c1 c2).tdiv (cgI (cxI a1 a2 b1 b2 c1 c2) (cyI a1 a2 b1 b2 c1 c2) (cdI a1 a2 b1 b2 c1 c2))), .int .i64 ((cdI a1 a2 b1 b2 c1 c2).tdiv (cgI (cxI a1 a2 b1 b2 c1 c2) (cyI a1 a2 b1 b2 c1 c2) (cdI a1 a2 b1 b2 c1 c2))), .bool true]) ∧ Below w.heap.size w w' := by
  have hX := Lib.hid (cx_other a1 a2 b1 b2 c1 c2)
  have hY := Lib.hid (cy_other a1 a2 b1 b2 c1 c2)
  have hD : Hid (2 * ((b1 - a1) * (c2 - a2) - (b2 - a2) * (c1 - a1)) = cdI a1 a2 b1 b2 c1 c2) := Lib.hid rfl
  have hd0 : cdI a1 a2 b1 b2 c1 c2 ≠ 0 := by unfold cdI; omega
  clear hd
  generalize cxI a1 a2 b1 b2 c1 c2 = X at *
  generalize cyI a1 a2 b1 b2 c1 c2 = Y at *
  generalize cdI a1 a2 b1 b2 c1 c2 = D at *
  have bx0 : -80 ≤ b1 - a1 ∧ b1 - a1 ≤ 80 := by omega
  have by0 : -80 ≤ b2 - a2 ∧ b2 - a2 ≤ 80 := by omega
  have cx0 : -80 ≤ c1 - a1 ∧ c1 - a1 ≤ 80 := by omega
  have cy0 : -80 ≤ c2 - a2 ∧ c2 - a2 ≤ 80 := by omega
  have e1 : IntKind.i64.wrap (b1 - a1) = b1 - a1 := IntWalk.i64_in _ (by omega)
  have e2 : IntKind.i64.wrap (b2 - a2) = b2 - a2 := IntWalk.i64_in _ (by omega)
  have e3 : IntKind.i64.wrap (c1 - a1) = c1 - a1 := IntWalk.i64_in _ (by omega)
  have e4 : IntKind.i64.wrap (c2 - a2) = c2 - a2 := IntWalk.i64_in _ (by omega)
  go_enter Try.func42, Try.ntmps42
  go_wp2_with fail
  refine K.out.mono ?_; rintro e w1 ⟨rfl, hb1⟩
  obtain ⟨x0, x1, x2, x3, x4, x5⟩ := H3.out w1 hb1
  have hbz : b < w1.heap.size := by have := hb1.size; omega
  have hbz2 : b < w1.heap.size + 1 := by omega
  have hbz3 : b < w1.heap.size + 2 := by omega
  have hbz4 : b < w1.heap.size + 3 := by omega
  have nn1 : b ≠ w1.heap.size := by omega
  have nn2 : b ≠ w1.heap.size + 1 := by omega
  have nn3 : b ≠ w1.heap.size + 2 := by omega
  go_upto_region 3 with fail
  go_cut [6, 7, 8] from 22 to 30 (fun p q r wx => ∃ g h k : Nat, p = .pointer (some ⟨g, 0, none⟩) ∧ q = .pointer (some ⟨h, 0, none⟩) ∧ r = .pointer (some ⟨k, 0, none⟩) ∧ Below w1.heap.size w1 wx ∧ g < wx.heap.size ∧ h < wx.heap.size ∧ k < wx.heap.size ∧ wx.cell? ⟨g, 0, none⟩ = some (.int .i64 a1) ∧ wx.cell? ⟨g, 1, none⟩ = some (.int .i64 a2) ∧ wx.cell? ⟨h, 0, none⟩ = some (.int .i64 b1) ∧ wx.cell? ⟨h, 1, none⟩ = some (.int .i64 b2) ∧ wx.cell? ⟨k, 0, none⟩ = some (.int .i64 c1) ∧ wx.cell? ⟨k, 1, none⟩ = some (.int .i64 c2))
  case first =>
    clear hX hY hD hd0 e1 e2 e3 e4 bx0 by0 cx0 cy0
    go_region
    all_goals
      go_wp2_with fail
      go_meet
      case rel =>
        refine ⟨_, _, _, rfl, rfl, rfl, ?_, by simp <;> omega, by simp <;> omega, by simp <;> omega, by go_simp, by go_simp, by go_simp, by go_simp, by go_simp, by go_simp⟩
        repeat (first | with_reducible assumption | with_reducible exact Below.refl _ _ | with_reducible apply Below.drew | ((with_reducible refine Below.setCell ?_ ?_ _); rotate_left; (first | exact Nat.le_refl _ | omega | (simp <;> omega))) | ((with_reducible refine Below.alloc ?_ ?_ _); rotate_left; (first | omega | (simp <;> omega))))
  case rest =>
  obtain ⟨g, h, k, rfl, rfl, rfl, B0, z1, z2, z3, y1, y2, y3, y4, y5, y6⟩ := hcut
  clear x0 x1 x2 x3 x4 x5 hbz hbz2 hbz3 hbz4 nn1 nn2 nn3
  have B1 := hb1.trans (B0.mono hb1.size)
  go_wp2_with fail
  refine wp_region_B (fun W => Below wc.heap.size wc W) (by kernel_rfl) (by repeat (first | exact Below.refl _ _ | apply Below.drew)) ?_
  first | refine wpB_skip 0 rfl (by kernel_rfl) (by kernel_rfl) (by kernel_rfl) (by rfl) ?_ | (refine wpB_text 0 (v := ?_) rfl (by kernel_rfl) (by kernel_rfl) (by kernel_rfl) (by rfl) (fun W hW => ?_) ?_; rotate_left; (have k1 := hW; obtain ⟨hc1, hf1⟩ := bcell k1; go_simp; refine comes_v ?_; exact k1))
  (try simp only [Act.put, List.setIfInBounds_toArray, List.set_cons_zero, List.set_cons_succ])
  first | refine wpB_skip 1 rfl (by kernel_rfl) (by kernel_rfl) (by kernel_rfl) (by rfl) ?_ | (refine wpB_text 1 (v := ?_) rfl (by kernel_rfl) (by kernel_rfl) (by kernel_rfl) (by rfl) (fun W hW => ?_) ?_; rotate_left; (have k1 := hW; obtain ⟨hc1, hf1⟩ := bcell k1; go_simp; refine comes_v ?_; exact k1))
  (try simp only [Act.put, List.setIfInBounds_toArray, List.set_cons_zero, List.set_cons_succ])
  first | refine wpB_skip 2 rfl (by kernel_rfl) (by kernel_rfl) (by kernel_rfl) (by rfl) ?_ | (refine wpB_text 2 (v := ?_) rfl (by kernel_rfl) (by kernel_rfl) (by kernel_rfl) (by rfl) (fun W hW => ?_) ?_; rotate_left; (have k1 := hW; obtain ⟨hc1, hf1⟩ := bcell k1; go_simp; refine comes_v ?_; exact k1))
  (try simp only [Act.put, List.setIfInBounds_toArray, List.set_cons_zero, List.set_cons_succ])
  first | refine wpB_skip 3 rfl (by kernel_rfl) (by kernel_rfl) (by kernel_rfl) (by rfl) ?_ | (refine wpB_text 3 (v := ?_) rfl (by kernel_rfl) (by kernel_rfl) (by kernel_rfl) (by rfl) (fun W hW => ?_) ?_; rotate_left; (have k1 := hW; obtain ⟨hc1, hf1⟩ := bcell k1; go_simp; refine comes_v ?_; exact k1))
  (try simp only [Act.put, List.setIfInBounds_toArray, List.set_cons_zero, List.set_cons_succ])
  first | refine wpB_skip 4 rfl (by kernel_rfl) (by kernel_rfl) (by kernel_rfl) (by rfl) ?_ | (refine wpB_text 4 (v := ?_) rfl (by kernel_rfl) (by kernel_rfl) (by kernel_rfl) (by rfl) (fun W hW => ?_) ?_; rotate_left; (have k1 := hW; obtain ⟨hc1, hf1⟩ := bcell k1; go_simp; refine comes_v ?_; exact k1))
  (try simp only [Act.put, List.setIfInBounds_toArray, List.set_cons_zero, List.set_cons_succ])
  first | refine wpB_skip 5 rfl (by kernel_rfl) (by kernel_rfl) (by kernel_rfl) (by rfl) ?_ | (refine wpB_text 5 (v := ?_) rfl (by kernel_rfl) (by kernel_rfl) (by kernel_rfl) (by rfl) (fun W hW => ?_) ?_; rotate_left; (have k1 := hW; obtain ⟨hc1, hf1⟩ := bcell k1; go_simp; refine comes_v ?_; exact k1))
  (try simp only [Act.put, List.setIfInBounds_toArray, List.set_cons_zero, List.set_cons_succ])
  first | refine wpB_skip 6 rfl (by kernel_rfl) (by kernel_rfl) (by kernel_rfl) (by rfl) ?_ | (refine wpB_text 6 (v := ?_) rfl (by kernel_rfl) (by kernel_rfl) (by kernel_rfl) (by rfl) (fun W hW => ?_) ?_; rotate_left; (have k1 := hW; obtain ⟨hc1, hf1⟩ := bcell k1; go_simp; refine comes_v ?_; exact k1))
  (try simp only [Act.put, List.setIfInBounds_toArray, List.set_cons_zero, List.set_cons_succ])
  first | refine wpB_skip 7 rfl (by kernel_rfl) (by kernel_rfl) (by kernel_rfl) (by rfl) ?_ | (refine wpB_text 7 (v := ?_) rfl (by kernel_rfl) (by kernel_rfl) (by kernel_rfl) (by rfl) (fun W hW => ?_) ?_; rotate_left; (have k1 := hW; obtain ⟨hc1, hf1⟩ := bcell k1; go_simp; refine comes_v ?_; exact k1))
  (try simp only [Act.put, List.setIfInBounds_toArray, List.set_cons_zero, List.set_cons_succ])
  first | refine wpB_skip 8 rfl (by kernel_rfl) (by kernel_rfl) (by kernel_rfl) (by rfl) ?_ | (refine wpB_text 8 (v := ?_) rfl (by kernel_rfl) (by kernel_rfl) (by kernel_rfl) (by rfl) (fun W hW => ?_) ?_; rotate_left; (have k1 := hW; obtain ⟨hc1, hf1⟩ := bcell k1; go_simp; refine comes_v ?_; exact k1))
  (try simp only [Act.put, List.setIfInBounds_toArray, List.set_cons_zero, List.set_cons_succ])
  first | refine wpB_skip 9 rfl (by kernel_rfl) (by kernel_rfl) (by kernel_rfl) (by rfl) ?_ | (refine wpB_text 9 (v := ?_) rfl (by kernel_rfl) (by kernel_rfl) (by kernel_rfl) (by rfl) (fun W hW => ?_) ?_; rotate_left; (have k1 := hW; obtain ⟨hc1, hf1⟩ := bcell k1; go_simp; refine comes_v ?_; exact k1))
  (try simp only [Act.put, List.setIfInBounds_toArray, List.set_cons_zero, List.set_cons_succ])
  first | refine wpB_skip 10 rfl (by kernel_rfl) (by kernel_rfl) (by kernel_rfl) (by rfl) ?_ | (refine wpB_text 10 (v := ?_) rfl (by kernel_rfl) (by kernel_rfl) (by kernel_rfl) (by rfl) (fun W hW => ?_) ?_; rotate_left; (have k1 := hW; obtain ⟨hc1, hf1⟩ := bcell k1; go_simp; refine comes_v ?_; exact k1))
  (try simp only [Act.put, List.setIfInBounds_toArray, List.set_cons_zero, List.set_cons_succ])
  first | refine wpB_skip 11 rfl (by kernel_rfl) (by kernel_rfl) (by kernel_rfl) (by rfl) ?_ | (refine wpB_text 11 (v := ?_) rfl (by kernel_rfl) (by kernel_rfl) (by kernel_rfl) (by rfl) (fun W hW => ?_) ?_; rotate_left; (have k1 := hW; obtain ⟨hc1, hf1⟩ := bcell k1; go_simp; refine comes_v ?_; exact k1))
  (try simp only [Act.put, List.setIfInBounds_toArray, List.set_cons_zero, List.set_cons_succ])
  first | refine wpB_skip 12 rfl (by kernel_rfl) (by kernel_rfl) (by kernel_rfl) (by rfl) ?_ | (refine wpB_text 12 (v := ?_) rfl (by kernel_rfl) (by kernel_rfl) (by kernel_rfl) (by rfl) (fun W hW => ?_) ?_; rotate_left; (have k1 := hW; obtain ⟨hc1, hf1⟩ := bcell k1; go_simp; refine comes_v ?_; exact k1))
  (try simp only [Act.put, List.setIfInBounds_toArray, List.set_cons_zero, List.set_cons_succ])
  first | refine wpB_skip 13 rfl (by kernel_rfl) (by kernel_rfl) (by kernel_rfl) (by rfl) ?_ | (refine wpB_text 13 (v := ?_) rfl (by kernel_rfl) (by kernel_rfl) (by kernel_rfl) (by rfl) (fun W hW => ?_) ?_; rotate_left; (have k1 := hW; obtain ⟨hc1, hf1⟩ := bcell k1; go_simp; refine comes_v ?_; exact k1))
  (try simp only [Act.put, List.setIfInBounds_toArray, List.set_cons_zero, List.set_cons_succ])
  first | refine wpB_skip 14 rfl (by kernel_rfl) (by kernel_rfl) (by kernel_rfl) (by rfl) ?_ | (refine wpB_text 14 (v := ?_) rfl (by kernel_rfl) (by kernel_rfl) (by kernel_rfl) (by rfl) (fun W hW => ?_) ?_; rotate_left; (have k1 := hW; obtain ⟨hc1, hf1⟩ := bcell k1; go_simp; refine comes_v ?_; exact k1))
  (try simp only [Act.put, List.setIfInBounds_toArray, List.set_cons_zero, List.set_cons_succ])
  first | refine wpB_skip 15 rfl (by kernel_rfl) (by kernel_rfl) (by kernel_rfl) (by rfl) ?_ | (refine wpB_text 15 (v := ?_) rfl (by kernel_rfl) (by kernel_rfl) (by kernel_rfl) (by rfl) (fun W hW => ?_) ?_; rotate_left; (have k1 := hW; obtain ⟨hc1, hf1⟩ := bcell k1; go_simp; refine comes_v ?_; exact k1))
  (try simp only [Act.put, List.setIfInBounds_toArray, List.set_cons_zero, List.set_cons_succ])
  first | refine wpB_skip 16 rfl (by kernel_rfl) (by kernel_rfl) (by kernel_rfl) (by rfl) ?_ | (refine wpB_text 16 (v := ?_) rfl (by kernel_rfl) (by kernel_rfl) (by kernel_rfl) (by rfl) (fun W hW => ?_) ?_; rotate_left; (have k1 := hW; obtain ⟨hc1, hf1⟩ := bcell k1; go_simp; refine comes_v ?_; exact k1))
  (try simp only [Act.put, List.setIfInBounds_toArray, List.set_cons_zero, List.set_cons_succ])
  first | refine wpB_skip 17 rfl (by kernel_rfl) (by kernel_rfl) (by kernel_rfl) (by rfl) ?_ | (refine wpB_text 17 (v := ?_) rfl (by kernel_rfl) (by kernel_rfl) (by kernel_rfl) (by rfl) (fun W hW => ?_) ?_; rotate_left; (have k1 := hW; obtain ⟨hc1, hf1⟩ := bcell k1; go_simp; refine comes_v ?_; exact k1))
  (try simp only [Act.put, List.setIfInBounds_toArray, List.set_cons_zero, List.set_cons_succ])
  first | refine wpB_skip 18 rfl (by kernel_rfl) (by kernel_rfl) (by kernel_rfl) (by rfl) ?_ | (refine wpB_text 18 (v := ?_) rfl (by kernel_rfl) (by kernel_rfl) (by kernel_rfl) (by rfl) (fun W hW => ?_) ?_; rotate_left; (have k1 := hW; obtain ⟨hc1, hf1⟩ := bcell k1; go_simp; refine comes_v ?_; exact k1))
  (try simp only [Act.put, List.setIfInBounds_toArray, List.set_cons_zero, List.set_cons_succ])
  first | refine wpB_skip 19 rfl (by kernel_rfl) (by kernel_rfl) (by kernel_rfl) (by rfl) ?_ | (refine wpB_text 19 (v := ?_) rfl (by kernel_rfl) (by kernel_rfl) (by kernel_rfl) (by rfl) (fun W hW => ?_) ?_; rotate_left; (have k1 := hW; obtain ⟨hc1, hf1⟩ := bcell k1; go_simp; refine comes_v ?_; exact k1))
  (try simp only [Act.put, List.setIfInBounds_toArray, List.set_cons_zero, List.set_cons_succ])
  first | refine wpB_skip 20 rfl (by kernel_rfl) (by kernel_rfl) (by kernel_rfl) (by rfl) ?_ | (refine wpB_text 20 (v := ?_) rfl (by kernel_rfl) (by kernel_rfl) (by kernel_rfl) (by rfl) (fun W hW => ?_) ?_; rotate_left; (have k1 := hW; obtain ⟨hc1, hf1⟩ := bcell k1; go_simp; refine comes_v ?_; exact k1))
  (try simp only [Act.put, List.setIfInBounds_toArray, List.set_cons_zero, List.set_cons_succ])
  first | refine wpB_skip 21 rfl (by kernel_rfl) (by kernel_rfl) (by kernel_rfl) (by rfl) ?_ | (refine wpB_text 21 (v := ?_) rfl (by kernel_rfl) (by kernel_rfl) (by kernel_rfl) (by rfl) (fun W hW => ?_) ?_; rotate_left; (have k1 := hW; obtain ⟨hc1, hf1⟩ := bcell k1; go_simp; refine comes_v ?_; exact k1))
  (try simp only [Act.put, List.setIfInBounds_toArray, List.set_cons_zero, List.set_cons_succ])
  first | refine wpB_skip 22 rfl (by kernel_rfl) (by kernel_rfl) (by kernel_rfl) (by rfl) ?_ | (refine wpB_text 22 (v := ?_) rfl (by kernel_rfl) (by kernel_rfl) (by kernel_rfl) (by rfl) (fun W hW => ?_) ?_; rotate_left; (have k1 := hW; obtain ⟨hc1, hf1⟩ := bcell k1; go_simp; refine comes_v ?_; exact k1))
  (try simp only [Act.put, List.setIfInBounds_toArray, List.set_cons_zero, List.set_cons_succ])
  first | refine wpB_skip 23 rfl (by kernel_rfl) (by kernel_rfl) (by kernel_rfl) (by rfl) ?_ | (refine wpB_text 23 (v := ?_) rfl (by kernel_rfl) (by kernel_rfl) (by kernel_rfl) (by rfl) (fun W hW => ?_) ?_; rotate_left; (have k1 := hW; obtain ⟨hc1, hf1⟩ := bcell k1; go_simp; refine comes_v ?_; exact k1))
  (try simp only [Act.put, List.setIfInBounds_toArray, List.set_cons_zero, List.set_cons_succ])
  refine wpB_done (by kernel_rfl) ?_ _
  intro W hW; have k1 := hW
  obtain ⟨hc1, hf1⟩ := bcell k1
  have q1 := (hc1 _ 0 z1).trans y1
  have q2 := (hc1 _ 1 z1).trans y2
  have B2 := B1.trans (k1.mono B1.size)
  have zW : g < W.heap.size := by have := k1.size; omega
  clear e1 e2 e3 e4 hc1 hf1 y1 y2 y3 y4 y5 y6 z1 z2 z3 B0 B1 k1 K H3
  generalize hbx : b1 - a1 = bx at *
  generalize hby : b2 - a2 = by_ at *
  generalize hcx : c1 - a1 = cx at *
  generalize hcy : c2 - a2 = cy at *
  clear hbx hby hcx hcy
  obtain ⟨s1, s2⟩ := sq80 bx0
  obtain ⟨s3, s4⟩ := sq80 by0
  obtain ⟨s5, s6⟩ := sq80 cx0
  obtain ⟨s7, s8⟩ := sq80 cy0
  have m1 := mul_bd (x := bx) (y := cy) (m := 80) (n := 80) (by omega) (by omega) (by omega) (by omega)
  have m2 := mul_bd (x := by_) (y := cx) (m := 80) (n := 80) (by omega) (by omega) (by omega) (by omega)
  have m3 := mul_bd (x := cy) (y := bx * bx + by_ * by_) (m := 80) (n := 12800) (by omega) (by omega) (by omega) (by omega)
  have m4 := mul_bd (x := by_) (y := cx * cx + cy * cy) (m := 80) (n := 12800) (by omega) (by omega) (by omega) (by omega)
  have m5 := mul_bd (x := bx) (y := cx * cx + cy * cy) (m := 80) (n := 12800) (by omega) (by omega) (by omega) (by omega)
  have m6 := mul_bd (x := cx) (y := bx * bx + by_ * by_) (m := 80) (n := 12800) (by omega) (by omega) (by omega) (by omega)
  have m7 := mul_bd (x := a1) (y := 2 * (bx * cy - by_ * cx)) (m := 40) (n := 25600) (by omega) (by omega) (by omega) (by omega)
  have m8 := mul_bd (x := a2) (y := 2 * (bx * cy - by_ * cx)) (m := 40) (n := 25600) (by omega) (by omega) (by omega) (by omega)
  obtain ⟨n1, n2⟩ := m1
  obtain ⟨n3, n4⟩ := m2
  obtain ⟨n5, n6⟩ := m3
  obtain ⟨n7, n8⟩ := m4
  obtain ⟨n9, n10⟩ := m5
  obtain ⟨n11, n12⟩ := m6
  obtain ⟨n13, n14⟩ := m7
  obtain ⟨n15, n16⟩ := m8
  have X1 : -10000000 ≤ X ∧ X ≤ 10000000 := by have := hX.out; omega
  have Y1 : -10000000 ≤ Y ∧ Y ≤ 10000000 := by have := hY.out; omega
  have D1 : -10000000 ≤ D ∧ D ≤ 10000000 := by have := hD.out; omega
  obtain ⟨X2, X3⟩ := X1
  obtain ⟨Y2, Y3⟩ := Y1
  obtain ⟨D2, D3⟩ := D1
  go_upto_region 9 with fail
  rw [hX.out, hY.out, hD.out]
  clear hX hY hD s1 s2 s3 s4 s5 s6 s7 s8 n1 n2 n3 n4 n5 n6 n7 n8 n9 n10 n11 n12 n13 n14 n15 n16 bx0 by0 cx0 cy0
  generalize hP : bx * bx + by_ * by_ = P at *
  generalize hQ : cx * cx + cy * cy = Q at *
  clear hP hQ
  by_cases hneg : D < 0
  · have HG := Lib.hid (cg_neg (X := X) (Y := Y) hneg)
    have HB := gcd_le_add (-X).natAbs (-Y).natAbs
    have HC := gcd_le_add ((Nat.gcd (-X).natAbs (-Y).natAbs : Nat) : Int).natAbs (-D).natAbs
    have HP := Nat.gcd_pos_of_pos_right (((Nat.gcd (-X).natAbs (-Y).natAbs : Nat) : Int).natAbs) (show 0 < (-D).natAbs by omega)
    have K1 := Lib.hid (fun W => pgCommonW_any (-X) (-Y) W (by omega) (by omega) (by omega) (by omega))
    have K2 := Lib.hid (fun W => pgCommonW_any ((Nat.gcd (-X).natAbs (-Y).natAbs : Nat) : Int) (-D) W (by omega) (by omega) (by omega) (by omega))
    have R1 := Lib.hid (fun g : Int => (show X.tdiv (-g) = (-X).tdiv g by rw [Int.tdiv_neg, Int.neg_tdiv]))
    have R2 := Lib.hid (fun g : Int => (show Y.tdiv (-g) = (-Y).tdiv g by rw [Int.tdiv_neg, Int.neg_tdiv]))
    have R3 := Lib.hid (fun g : Int => (show D.tdiv (-g) = (-D).tdiv g by rw [Int.tdiv_neg, Int.neg_tdiv]))
    generalize Nat.gcd ((Nat.gcd (-X).natAbs (-Y).natAbs : Nat) : Int).natAbs (-D).natAbs = G at *
    generalize Nat.gcd (-X).natAbs (-Y).natAbs = G1 at *
    have t1 := tdiv_le (-X) G
    have t2 := tdiv_le (-Y) G
    have t3 := tdiv_le (-D) G
    have e1 : IntKind.i64.wrap ((-X).tdiv G) = (-X).tdiv G := IntWalk.i64_in _ (by omega)
    have e2 : IntKind.i64.wrap ((-Y).tdiv G) = (-Y).tdiv G := IntWalk.i64_in _ (by omega)
    have e3 : IntKind.i64.wrap ((-D).tdiv G) = (-D).tdiv G := IntWalk.i64_in _ (by omega)
    have e4 : ¬ G = 0 := by omega
    have e5 : ¬ (G : Int) = 0 := by omega
    clear t1 t2 t3 HB HC HP
    go_wp2_with fail
    refine (K1.out _).mono ?_; rintro e w3 ⟨rfl, hb3⟩
    have B3 := B2.trans (hb3.mono B2.size)
    go_wp2_with fail
    refine (K2.out _).mono ?_; rintro e w4 ⟨rfl, hb4⟩
    have B4 := B3.trans (hb4.mono B3.size)
    clear hb3 hb4 B3 B2 K1 K2 q1 q2 zW
    go_wp2_with fail
    refine wp_region_B (fun W => Below w4.heap.size w4 W) (by kernel_rfl) (by repeat (first | exact Below.refl _ _ | apply Below.drew)) ?_
    first | refine wpB_skip 0 rfl (by kernel_rfl) (by kernel_rfl) (by kernel_rfl) (by rfl) ?_ | (refine wpB_text 0 (v := ?_) rfl (by kernel_rfl) (by kernel_rfl) (by kernel_rfl) (by rfl) (fun W hW => ?_) ?_; rotate_left; (have k1 := hW; obtain ⟨hc1, hf1⟩ := bcell k1; go_simp; refine comes_v ?_; exact k1))
    (try simp only [Act.put, List.setIfInBounds_toArray, List.set_cons_zero, List.set_cons_succ])
    first | refine wpB_skip 1 rfl (by kernel_rfl) (by kernel_rfl) (by kernel_rfl) (by rfl) ?_ | (refine wpB_text 1 (v := ?_) rfl (by kernel_rfl) (by kernel_rfl) (by kernel_rfl) (by rfl) (fun W hW => ?_) ?_; rotate_left; (have k1 := hW; obtain ⟨hc1, hf1⟩ := bcell k1; go_simp; refine comes_v ?_; exact k1))
    (try simp only [Act.put, List.setIfInBounds_toArray, List.set_cons_zero, List.set_cons_succ])
    first | refine wpB_skip 2 rfl (by kernel_rfl) (by kernel_rfl) (by kernel_rfl) (by rfl) ?_ | (refine wpB_text 2 (v := ?_) rfl (by kernel_rfl) (by kernel_rfl) (by kernel_rfl) (by rfl) (fun W hW => ?_) ?_; rotate_left; (have k1 := hW; obtain ⟨hc1, hf1⟩ := bcell k1; go_simp; refine comes_v ?_; exact k1))
    (try simp only [Act.put, List.setIfInBounds_toArray, List.set_cons_zero, List.set_cons_succ])
    first | refine wpB_skip 3 rfl (by kernel_rfl) (by kernel_rfl) (by kernel_rfl) (by rfl) ?_ | (refine wpB_text 3 (v := ?_) rfl (by kernel_rfl) (by kernel_rfl) (by kernel_rfl) (by rfl) (fun W hW => ?_) ?_; rotate_left; (have k1 := hW; obtain ⟨hc1, hf1⟩ := bcell k1; go_simp; refine comes_v ?_; exact k1))
    (try simp only [Act.put, List.setIfInBounds_toArray, List.set_cons_zero, List.set_cons_succ])
    first | refine wpB_skip 4 rfl (by kernel_rfl) (by kernel_rfl) (by kernel_rfl) (by rfl) ?_ | (refine wpB_text 4 (v := ?_) rfl (by kernel_rfl) (by kernel_rfl) (by kernel_rfl) (by rfl) (fun W hW => ?_) ?_; rotate_left; (have k1 := hW; obtain ⟨hc1, hf1⟩ := bcell k1; go_simp; refine comes_v ?_; exact k1))
    (try simp only [Act.put, List.setIfInBounds_toArray, List.set_cons_zero, List.set_cons_succ])
    first | refine wpB_skip 5 rfl (by kernel_rfl) (by kernel_rfl) (by kernel_rfl) (by rfl) ?_ | (refine wpB_text 5 (v := ?_) rfl (by kernel_rfl) (by kernel_rfl) (by kernel_rfl) (by rfl) (fun W hW => ?_) ?_; rotate_left; (have k1 := hW; obtain ⟨hc1, hf1⟩ := bcell k1; go_simp; refine comes_v ?_; exact k1))
    (try simp only [Act.put, List.setIfInBounds_toArray, List.set_cons_zero, List.set_cons_succ])
    first | refine wpB_skip 6 rfl (by kernel_rfl) (by kernel_rfl) (by kernel_rfl) (by rfl) ?_ | (refine wpB_text 6 (v := ?_) rfl (by kernel_rfl) (by kernel_rfl) (by kernel_rfl) (by rfl) (fun W hW => ?_) ?_; rotate_left; (have k1 := hW; obtain ⟨hc1, hf1⟩ := bcell k1; go_simp; refine comes_v ?_; exact k1))
    (try simp only [Act.put, List.setIfInBounds_toArray, List.set_cons_zero, List.set_cons_succ])
    first | refine wpB_skip 7 rfl (by kernel_rfl) (by kernel_rfl) (by kernel_rfl) (by rfl) ?_ | (refine wpB_text 7 (v := ?_) rfl (by kernel_rfl) (by kernel_rfl) (by kernel_rfl) (by rfl) (fun W hW => ?_) ?_; rotate_left; (have k1 := hW; obtain ⟨hc1, hf1⟩ := bcell k1; go_simp; refine comes_v ?_; exact k1))
    (try simp only [Act.put, List.setIfInBounds_toArray, List.set_cons_zero, List.set_cons_succ])
    first | refine wpB_skip 8 rfl (by kernel_rfl) (by kernel_rfl) (by kernel_rfl) (by rfl) ?_ | (refine wpB_text 8 (v := ?_) rfl (by kernel_rfl) (by kernel_rfl) (by kernel_rfl) (by rfl) (fun W hW => ?_) ?_; rotate_left; (have k1 := hW; obtain ⟨hc1, hf1⟩ := bcell k1; go_simp; refine comes_v ?_; exact k1))
    (try simp only [Act.put, List.setIfInBounds_toArray, List.set_cons_zero, List.set_cons_succ])
    first | refine wpB_skip 9 rfl (by kernel_rfl) (by kernel_rfl) (by kernel_rfl) (by rfl) ?_ | (refine wpB_text 9 (v := ?_) rfl (by kernel_rfl) (by kernel_rfl) (by kernel_rfl) (by rfl) (fun W hW => ?_) ?_; rotate_left; (have k1 := hW; obtain ⟨hc1, hf1⟩ := bcell k1; go_simp; refine comes_v ?_; exact k1))
    (try simp only [Act.put, List.setIfInBounds_toArray, List.set_cons_zero, List.set_cons_succ])
    first | refine wpB_skip 10 rfl (by kernel_rfl) (by kernel_rfl) (by kernel_rfl) (by rfl) ?_ | (refine wpB_text 10 (v := ?_) rfl (by kernel_rfl) (by kernel_rfl) (by kernel_rfl) (by rfl) (fun W hW => ?_) ?_; rotate_left; (have k1 := hW; obtain ⟨hc1, hf1⟩ := bcell k1; go_simp; refine comes_v ?_; exact k1))
    (try simp only [Act.put, List.setIfInBounds_toArray, List.set_cons_zero, List.set_cons_succ])
    first | refine wpB_skip 11 rfl (by kernel_rfl) (by kernel_rfl) (by kernel_rfl) (by rfl) ?_ | (refine wpB_text 11 (v := ?_) rfl (by kernel_rfl) (by kernel_rfl) (by kernel_rfl) (by rfl) (fun W hW => ?_) ?_; rotate_left; (have k1 := hW; obtain ⟨hc1, hf1⟩ := bcell k1; go_simp; refine comes_v ?_; exact k1))
    (try simp only [Act.put, List.setIfInBounds_toArray, List.set_cons_zero, List.set_cons_succ])
    first | refine wpB_skip 12 rfl (by kernel_rfl) (by kernel_rfl) (by kernel_rfl) (by rfl) ?_ | (refine wpB_text 12 (v := ?_) rfl (by kernel_rfl) (by kernel_rfl) (by kernel_rfl) (by rfl) (fun W hW => ?_) ?_; rotate_left; (have k1 := hW; obtain ⟨hc1, hf1⟩ := bcell k1; go_simp; refine comes_v ?_; exact k1))
    (try simp only [Act.put, List.setIfInBounds_toArray, List.set_cons_zero, List.set_cons_succ])
    refine wpB_done (by kernel_rfl) ?_ _
    intro W hW; have k1 := hW
    have B5 := B4.trans (k1.mono B4.size)
    go_wp2_with fail
    have f1 : IntKind.i64.wrap (-(X.tdiv G)) = -(X.tdiv G) := by rw [← Int.neg_tdiv]; exact e1
    have f2 : IntKind.i64.wrap (-(Y.tdiv G)) = -(Y.tdiv G) := by rw [← Int.neg_tdiv]; exact e2
    have f3 : IntKind.i64.wrap (-(D.tdiv G)) = -(D.tdiv G) := by rw [← Int.neg_tdiv]; exact e3
    refine bodyPost_ret (v := .tuple #[.int .i64 ((-X).tdiv G), .int .i64 ((-Y).tdiv G), .int .i64 ((-D).tdiv G), .bool true]) (by simp [results, Try.results42, go_sem, f1, f2, f3]) rfl ⟨by rw [HG.out, R1.out, R2.out, R3.out], B5⟩
  · have HG := Lib.hid (cg_pos (X := X) (Y := Y) hneg)
    have HB := gcd_le_add X.natAbs Y.natAbs
    have HC := gcd_le_add ((Nat.gcd X.natAbs Y.natAbs : Nat) : Int).natAbs D.natAbs
    have HP := Nat.gcd_pos_of_pos_right (((Nat.gcd X.natAbs Y.natAbs : Nat) : Int).natAbs) (show 0 < D.natAbs by omega)
    have K1 := Lib.hid (fun W => pgCommonW_any X Y W (by omega) (by omega) (by omega) (by omega))
    have K2 := Lib.hid (fun W => pgCommonW_any ((Nat.gcd X.natAbs Y.natAbs : Nat) : Int) D W (by omega) (by omega) (by omega) (by omega))
    generalize Nat.gcd ((Nat.gcd X.natAbs Y.natAbs : Nat) : Int).natAbs D.natAbs = G at *
    generalize Nat.gcd X.natAbs Y.natAbs = G1 at *
    have t1 := tdiv_le X G
    have t2 := tdiv_le Y G
    have t3 := tdiv_le D G
    have e1 : IntKind.i64.wrap (X.tdiv G) = X.tdiv G := IntWalk.i64_in _ (by omega)
    have e2 : IntKind.i64.wrap (Y.tdiv G) = Y.tdiv G := IntWalk.i64_in _ (by omega)
    have e3 : IntKind.i64.wrap (D.tdiv G) = D.tdiv G := IntWalk.i64_in _ (by omega)
    have e4 : ¬ G = 0 := by omega
    have e5 : ¬ (G : Int) = 0 := by omega
    clear t1 t2 t3 HB HC HP
    go_wp2_with fail
    refine (K1.out _).mono ?_; rintro e w3 ⟨rfl, hb3⟩
    have B3 := B2.trans (hb3.mono B2.size)
    go_wp2_with fail
    refine (K2.out _).mono ?_; rintro e w4 ⟨rfl, hb4⟩
    have B4 := B3.trans (hb4.mono B3.size)
    clear hb3 hb4 B3 B2 K1 K2 q1 q2 zW
    go_wp2_with fail
    refine wp_region_B (fun W => Below w4.heap.size w4 W) (by kernel_rfl) (by repeat (first | exact Below.refl _ _ | apply Below.drew)) ?_
    first | refine wpB_skip 0 rfl (by kernel_rfl) (by kernel_rfl) (by kernel_rfl) (by rfl) ?_ | (refine wpB_text 0 (v := ?_) rfl (by kernel_rfl) (by kernel_rfl) (by kernel_rfl) (by rfl) (fun W hW => ?_) ?_; rotate_left; (have k1 := hW; obtain ⟨hc1, hf1⟩ := bcell k1; go_simp; refine comes_v ?_; exact k1))
    (try simp only [Act.put, List.setIfInBounds_toArray, List.set_cons_zero, List.set_cons_succ])
    first | refine wpB_skip 1 rfl (by kernel_rfl) (by kernel_rfl) (by kernel_rfl) (by rfl) ?_ | (refine wpB_text 1 (v := ?_) rfl (by kernel_rfl) (by kernel_rfl) (by kernel_rfl) (by rfl) (fun W hW => ?_) ?_; rotate_left; (have k1 := hW; obtain ⟨hc1, hf1⟩ := bcell k1; go_simp; refine comes_v ?_; exact k1))
    (try simp only [Act.put, List.setIfInBounds_toArray, List.set_cons_zero, List.set_cons_succ])
    first | refine wpB_skip 2 rfl (by kernel_rfl) (by kernel_rfl) (by kernel_rfl) (by rfl) ?_ | (refine wpB_text 2 (v := ?_) rfl (by kernel_rfl) (by kernel_rfl) (by kernel_rfl) (by rfl) (fun W hW => ?_) ?_; rotate_left; (have k1 := hW; obtain ⟨hc1, hf1⟩ := bcell k1; go_simp; refine comes_v ?_; exact k1))
    (try simp only [Act.put, List.setIfInBounds_toArray, List.set_cons_zero, List.set_cons_succ])
    first | refine wpB_skip 3 rfl (by kernel_rfl) (by kernel_rfl) (by kernel_rfl) (by rfl) ?_ | (refine wpB_text 3 (v := ?_) rfl (by kernel_rfl) (by kernel_rfl) (by kernel_rfl) (by rfl) (fun W hW => ?_) ?_; rotate_left; (have k1 := hW; obtain ⟨hc1, hf1⟩ := bcell k1; go_simp; refine comes_v ?_; exact k1))
    (try simp only [Act.put, List.setIfInBounds_toArray, List.set_cons_zero, List.set_cons_succ])
    first | refine wpB_skip 4 rfl (by kernel_rfl) (by kernel_rfl) (by kernel_rfl) (by rfl) ?_ | (refine wpB_text 4 (v := ?_) rfl (by kernel_rfl) (by kernel_rfl) (by kernel_rfl) (by rfl) (fun W hW => ?_) ?_; rotate_left; (have k1 := hW; obtain ⟨hc1, hf1⟩ := bcell k1; go_simp; refine comes_v ?_; exact k1))
    (try simp only [Act.put, List.setIfInBounds_toArray, List.set_cons_zero, List.set_cons_succ])
    first | refine wpB_skip 5 rfl (by kernel_rfl) (by kernel_rfl) (by kernel_rfl) (by rfl) ?_ | (refine wpB_text 5 (v := ?_) rfl (by kernel_rfl) (by kernel_rfl) (by kernel_rfl) (by rfl) (fun W hW => ?_) ?_; rotate_left; (have k1 := hW; obtain ⟨hc1, hf1⟩ := bcell k1; go_simp; refine comes_v ?_; exact k1))
    (try simp only [Act.put, List.setIfInBounds_toArray, List.set_cons_zero, List.set_cons_succ])
    first | refine wpB_skip 6 rfl (by kernel_rfl) (by kernel_rfl) (by kernel_rfl) (by rfl) ?_ | (refine wpB_text 6 (v := ?_) rfl (by kernel_rfl) (by kernel_rfl) (by kernel_rfl) (by rfl) (fun W hW => ?_) ?_; rotate_left; (have k1 := hW; obtain ⟨hc1, hf1⟩ := bcell k1; go_simp; refine comes_v ?_; exact k1))
    (try simp only [Act.put, List.setIfInBounds_toArray, List.set_cons_zero, List.set_cons_succ])
    first | refine wpB_skip 7 rfl (by kernel_rfl) (by kernel_rfl) (by kernel_rfl) (by rfl) ?_ | (refine wpB_text 7 (v := ?_) rfl (by kernel_rfl) (by kernel_rfl) (by kernel_rfl) (by rfl) (fun W hW => ?_) ?_; rotate_left; (have k1 := hW; obtain ⟨hc1, hf1⟩ := bcell k1; go_simp; refine comes_v ?_; exact k1))
    (try simp only [Act.put, List.setIfInBounds_toArray, List.set_cons_zero, List.set_cons_succ])
    first | refine wpB_skip 8 rfl (by kernel_rfl) (by kernel_rfl) (by kernel_rfl) (by rfl) ?_ | (refine wpB_text 8 (v := ?_) rfl (by kernel_rfl) (by kernel_rfl) (by kernel_rfl) (by rfl) (fun W hW => ?_) ?_; rotate_left; (have k1 := hW; obtain ⟨hc1, hf1⟩ := bcell k1; go_simp; refine comes_v ?_; exact k1))
    (try simp only [Act.put, List.setIfInBounds_toArray, List.set_cons_zero, List.set_cons_succ])
    first | refine wpB_skip 9 rfl (by kernel_rfl) (by kernel_rfl) (by kernel_rfl) (by rfl) ?_ | (refine wpB_text 9 (v := ?_) rfl (by kernel_rfl) (by kernel_rfl) (by kernel_rfl) (by rfl) (fun W hW => ?_) ?_; rotate_left; (have k1 := hW; obtain ⟨hc1, hf1⟩ := bcell k1; go_simp; refine comes_v ?_; exact k1))
    (try simp only [Act.put, List.setIfInBounds_toArray, List.set_cons_zero, List.set_cons_succ])
    first | refine wpB_skip 10 rfl (by kernel_rfl) (by kernel_rfl) (by kernel_rfl) (by rfl) ?_ | (refine wpB_text 10 (v := ?_) rfl (by kernel_rfl) (by kernel_rfl) (by kernel_rfl) (by rfl) (fun W hW => ?_) ?_; rotate_left; (have k1 := hW; obtain ⟨hc1, hf1⟩ := bcell k1; go_simp; refine comes_v ?_; exact k1))
    (try simp only [Act.put, List.setIfInBounds_toArray, List.set_cons_zero, List.set_cons_succ])
    first | refine wpB_skip 11 rfl (by kernel_rfl) (by kernel_rfl) (by kernel_rfl) (by rfl) ?_ | (refine wpB_text 11 (v := ?_) rfl (by kernel_rfl) (by kernel_rfl) (by kernel_rfl) (by rfl) (fun W hW => ?_) ?_; rotate_left; (have k1 := hW; obtain ⟨hc1, hf1⟩ := bcell k1; go_simp; refine comes_v ?_; exact k1))
    (try simp only [Act.put, List.setIfInBounds_toArray, List.set_cons_zero, List.set_cons_succ])
    first | refine wpB_skip 12 rfl (by kernel_rfl) (by kernel_rfl) (by kernel_rfl) (by rfl) ?_ | (refine wpB_text 12 (v := ?_) rfl (by kernel_rfl) (by kernel_rfl) (by kernel_rfl) (by rfl) (fun W hW => ?_) ?_; rotate_left; (have k1 := hW; obtain ⟨hc1, hf1⟩ := bcell k1; go_simp; refine comes_v ?_; exact k1))
    (try simp only [Act.put, List.setIfInBounds_toArray, List.set_cons_zero, List.set_cons_succ])
    refine wpB_done (by kernel_rfl) ?_ _
    intro W hW; have k1 := hW
    have B5 := B4.trans (k1.mono B4.size)
    go_wp2_with fail
    refine bodyPost_ret (v := .tuple #[.int .i64 (X.tdiv G), .int .i64 (Y.tdiv G), .int .i64 (D.tdiv G), .bool true]) (by simp [results, Try.results42, go_sem]) rfl ⟨by rw [HG.out], B5⟩
end Go.Proofs.Ytgjegildeejghaa
