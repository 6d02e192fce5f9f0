/- contracts: Solutions, CountSolutions, IsSolved, on both sides -/
import Derived.Test.YtacabmbajadbgaaPzC
import Derived.Test.YtacabmbajadbgaaPzD
namespace Go.Proofs.Ytacabmbajadbgaa
open Go.ChangeShapes Go.WideShapes Go.ChangeAt Go.RowKit Go.Joins
set_option linter.unusedVariables false
set_option linter.unusedSimpArgs false
set_option maxRecDepth 4000
/-- the solutions of a puzzle -/
noncomputable def solP (s : Int) (n : Nat) (f : Nat → Int) : List (Int × Int) := if puzB s n f = true then solK f n (s.toNat + 1) ((s.toNat + 1) * (s.toNat + 1)) else []
theorem solP_t {ns n : Nat} {f : Nat → Int} (h : puzB (ns : Int) n f = true) : solP (ns : Int) n f = solK f n (ns + 1) ((ns + 1) * (ns + 1)) := by unfold solP; rw [if_pos h]; rfl
theorem solP_f {s : Int} {n : Nat} {f : Nat → Int} (h : puzB s n f = false) : solP s n f = [] := by unfold solP; rw [h]; rfl
theorem nat_of {s : Int} {n : Nat} {f : Nat → Int} (h : puzB s n f = true) : ∃ ns : Nat, s = (ns : Int) := ⟨s.toNat, by have := (puzB_t h).1; omega⟩
theorem solP_len (s : Int) (n : Nat) (f : Nat → Int) : (solP s n f).length ≤ 1048576 := by
  cases h : puzB s n f
  · rw [solP_f h]; simp
  · obtain ⟨ns, rfl⟩ := nat_of h
    have h12 := puzB_t h
    rw [solP_t h]
    have h1 := solK_len f n (ns + 1) ((ns + 1) * (ns + 1))
    have h2 : (ns + 1) * (ns + 1) ≤ 169 := Nat.le_trans (Nat.mul_le_mul (show ns + 1 ≤ 13 by omega) (show ns + 1 ≤ 13 by omega)) (Nat.le_refl _)
    omega
set_option maxHeartbeats 1000000 in
theorem specSolutions_any (s : Int) (A : Option Addr) (c n : Nat) (f : Nat → Int) (w : World) (hm : n ≤ 1048576) (hR : RdI w w.heap.size A (n * 4) f) :
    Calls Try.prog 46 #[.agg #[.int .i64 s, .slice A n c]] w (RetL w (solP s n f) (puzB s n f)) := by
  have K := Lib.hid (fun W (hb : Below w.heap.size w W) => pzGood_any s A c n f W hm (rdi_below hR hb (Nat.le_refl _)))
  have HB := Lib.hid (Below.alloc (Below.refl w.heap.size w) (Nat.le_refl _) (.cells #[.int .i64 s, .slice A n c] 28))
  have P0 := Lib.hid (pbx_new w s A n c 28)
  cases hp : puzB s n f
  · rw [solP_f hp]
    rw [hp] at K
    clear hp hR
    go_enter Try.func46, Try.ntmps46
    go_wp2_with fail
    refine (K.out _ HB.out).mono ?_; rintro e w1 ⟨rfl, hb1⟩
    go_wp2_with fail
    go_ret2
    exact retL_nil (HB.out.trans (hb1.mono HB.out.size))
  · obtain ⟨ns, rfl⟩ := nat_of hp
    rw [solP_t hp]
    have K2 := Lib.hid (fun W (hb : Below w.heap.size w W) => pzAll_any ns A c n f W hp (rdi_below hR hb (Nat.le_refl _)))
    rw [hp] at K
    clear hp hR
    generalize solK f n (ns + 1) ((ns + 1) * (ns + 1)) = m at *
    go_enter Try.func46, Try.ntmps46
    go_wp2_with fail
    refine (K.out _ HB.out).mono ?_; rintro e w1 ⟨rfl, hb1⟩
    have P1 := pbx_below P0.out hb1
    have B1 := HB.out.trans (hb1.mono HB.out.size)
    have p0 := P1.c0
    have p1 := P1.c1
    have pz := P1.z
    clear hb1 P1
    go_wp2_with fail
    refine (K2.out _ B1).mono ?_; rintro e w2 ⟨A2, c2, rfl, q1, q2, hb2, q3⟩
    go_wp2_with fail
    go_ret2
    exact retL_of_P B1 q1 q2 hb2 q3
set_option maxHeartbeats 1000000 in
theorem implSolutions_any (s : Int) (A : Option Addr) (c n : Nat) (f : Nat → Int) (w : World) (hm : n ≤ 1048576) (hR : RdI w w.heap.size A (n * 4) f) :
    Calls Try.prog 47 #[.agg #[.int .i64 s, .slice A n c]] w (RetL w (solP s n f) (puzB s n f)) := by
  have K := Lib.hid (fun W (hb : Below w.heap.size w W) => implIsPuzzle_any s A c n f W (rdi_below hR hb (Nat.le_refl _)))
  have HB := Lib.hid (Below.alloc (Below.refl w.heap.size w) (Nat.le_refl _) (.cells #[.int .i64 s, .slice A n c] 28))
  have P0 := Lib.hid (pbx_new w s A n c 28)
  cases hp : puzB s n f
  · rw [solP_f hp]
    rw [hp] at K
    clear hp hR
    go_enter Try.func47, Try.ntmps47
    go_wp2_with fail
    refine (K.out _ HB.out).mono ?_; rintro e w1 ⟨rfl, hb1⟩
    go_wp2_with fail
    go_ret2
    exact retL_nil (HB.out.trans (hb1.mono HB.out.size))
  · obtain ⟨ns, rfl⟩ := nat_of hp
    rw [solP_t hp]
    have K2 := Lib.hid (fun W (hb : Below w.heap.size w W) => solutions_any ns A c n f W hp (rdi_below hR hb (Nat.le_refl _)))
    rw [hp] at K
    clear hp hR
    generalize solK f n (ns + 1) ((ns + 1) * (ns + 1)) = m at *
    go_enter Try.func47, Try.ntmps47
    go_wp2_with fail
    refine (K.out _ HB.out).mono ?_; rintro e w1 ⟨rfl, hb1⟩
    have P1 := pbx_below P0.out hb1
    have B1 := HB.out.trans (hb1.mono HB.out.size)
    have p0 := P1.c0
    have p1 := P1.c1
    have pz := P1.z
    clear hb1 P1
    go_wp2_with fail
    refine (K2.out _ B1).mono ?_; rintro e w2 ⟨A2, c2, rfl, q1, q2, hb2, q3⟩
    go_wp2_with fail
    go_ret2
    exact retL_of_P B1 q1 q2 hb2 q3
theorem pzSolved_any (ns : Nat) (A : Option Addr) (c n : Nat) (f : Nat → Int) (w : World) (hp : puzB (ns : Int) n f = true) (hR : RdI w w.heap.size A (n * 4) f) :
    Calls Try.prog 71 #[.int .i64 (ns : Int), .slice A n c] w fun e w' => e = .returned (.bool (decide ((solP (ns : Int) n f).length = 1))) ∧ Below w.heap.size w w' := by
  have K := Lib.hid (pzAll_any ns A c n f w hp hR)
  rw [solP_t hp]
  clear hp hR
  generalize solK f n (ns + 1) ((ns + 1) * (ns + 1)) = m at *
  have hq : Hid (decide (((m.length : Nat) : Int) = 1) = decide (m.length = 1)) := Lib.hid (by rw [decide_eq_decide]; omega)
  go_enter Try.func71, Try.ntmps71
  go_wp2_with fail
  refine K.out.mono ?_; rintro e w2 ⟨A2, c2, rfl, q1, q2, hb2, q3⟩
  go_wp2_with fail
  go_ret
  exact ⟨ret_bool (by first | exact hq.out | (rw [← hq.out]; simp)), hb2⟩
theorem specIsSolved_any (s : Int) (A : Option Addr) (c n : Nat) (f : Nat → Int) (w : World) (hm : n ≤ 1048576) (hR : RdI w w.heap.size A (n * 4) f) :
    Calls Try.prog 51 #[.agg #[.int .i64 s, .slice A n c]] w fun e w' => e = .returned (.tuple #[.bool (decide ((solP s n f).length = 1)), .bool (puzB s n f)]) ∧ Below w.heap.size w w' := by
  have K := Lib.hid (fun W (hb : Below w.heap.size w W) => pzGood_any s A c n f W hm (rdi_below hR hb (Nat.le_refl _)))
  have HB := Lib.hid (Below.alloc (Below.refl w.heap.size w) (Nat.le_refl _) (.cells #[.int .i64 s, .slice A n c] 28))
  have P0 := Lib.hid (pbx_new w s A n c 28)
  cases hp : puzB s n f
  · rw [solP_f hp]
    rw [hp] at K
    clear hp hR
    go_enter Try.func51, Try.ntmps51
    go_wp2_with fail
    refine (K.out _ HB.out).mono ?_; rintro e w1 ⟨rfl, hb1⟩
    go_wp2_with fail
    go_ret2
    exact ⟨rfl, HB.out.trans (hb1.mono HB.out.size)⟩
  · obtain ⟨ns, rfl⟩ := nat_of hp
    have K2 := Lib.hid (fun W (hb : Below w.heap.size w W) => pzSolved_any ns A c n f W hp (rdi_below hR hb (Nat.le_refl _)))
    rw [hp] at K
    clear hp hR
    generalize decide ((solP (ns : Int) n f).length = 1) = q at *
    go_enter Try.func51, Try.ntmps51
    go_wp2_with fail
    refine (K.out _ HB.out).mono ?_; rintro e w1 ⟨rfl, hb1⟩
    have P1 := pbx_below P0.out hb1
    have B1 := HB.out.trans (hb1.mono HB.out.size)
    have p0 := P1.c0
    have p1 := P1.c1
    have pz := P1.z
    clear hb1 P1
    go_wp2_with fail
    refine (K2.out _ B1).mono ?_; rintro e w2 ⟨rfl, hb2⟩
    go_wp2_with fail
    go_ret2
    exact ⟨rfl, B1.trans (hb2.mono B1.size)⟩
theorem implIsSolved_any (s : Int) (A : Option Addr) (c n : Nat) (f : Nat → Int) (w : World) (hm : n ≤ 1048576) (hR : RdI w w.heap.size A (n * 4) f) :
    Calls Try.prog 52 #[.agg #[.int .i64 s, .slice A n c]] w fun e w' => e = .returned (.tuple #[.bool (decide ((solP s n f).length = 1)), .bool (puzB s n f)]) ∧ Below w.heap.size w w' := by
  have K := Lib.hid (fun W (hb : Below w.heap.size w W) => implSolutions_any s A c n f W hm (rdi_below hR hb (Nat.le_refl _)))
  have HB := Lib.hid (Below.alloc (Below.refl w.heap.size w) (Nat.le_refl _) (.cells #[.int .i64 s, .slice A n c] 28))
  clear hR
  generalize solP s n f = m at *
  generalize puzB s n f = b at *
  have hq : Hid (decide (((m.length : Nat) : Int) = 1) = decide (m.length = 1)) := Lib.hid (by rw [decide_eq_decide]; omega)
  go_enter Try.func52, Try.ntmps52
  go_wp2_with fail
  refine (K.out _ HB.out).mono ?_; rintro e w1 ⟨A2, c2, rfl, q1, q2, hb2, q3⟩
  go_wp2_with fail
  go_ret2
  exact ⟨by rw [← hq.out]; rfl, HB.out.trans (hb2.mono HB.out.size)⟩
end Go.Proofs.Ytacabmbajadbgaa
