/- joined: Ce Ci Cj Ck Cl Rz Ch -/
import Derived.Test.YtgjegildeejghaaZPegOfParts3
import Derived.ChangeSlices
import Derived.BigRegion
/- contracts: CircleOfThree, on both sides -/
namespace Go.Proofs.Ytgjegildeejghaa
open Go.ChangeShapes Go.WideShapes Go.ChangeAt Go.RowKit Go.Joins
set_option linter.unusedVariables false
set_option linter.unusedSimpArgs false
set_option maxRecDepth 4000
theorem tri_turn {l : List (Int × Int)} {a1 a2 b1 b2 c1 c2 : Int} (h : Tri l a1 a2 b1 b2 c1 c2) : twI a1 a2 b1 b2 c1 c2 ≠ 0 := by
  have := h.2.turn 0 (by rw [h.1]; simp)
  rw [show vx l 0 = (a1, a2) by rw [h.1]; rfl, show vx l (0 + 1) = (b1, b2) by rw [h.1]; rfl, show vx l (0 + 2) = (c1, c2) by rw [h.1]; rfl] at this
  exact this
theorem tri_cir {l : List (Int × Int)} {a1 a2 b1 b2 c1 c2 : Int} (h : Tri l a1 a2 b1 b2 c1 c2) :
    cirX l = (cxI a1 a2 b1 b2 c1 c2).tdiv (cgI (cxI a1 a2 b1 b2 c1 c2) (cyI a1 a2 b1 b2 c1 c2) (cdI a1 a2 b1 b2 c1 c2)) ∧ cirY l = (cyI a1 a2 b1 b2 c1 c2).tdiv (cgI (cxI a1 a2 b1 b2 c1 c2) (cyI a1 a2 b1 b2 c1 c2) (cdI a1 a2 b1 b2 c1 c2)) ∧ cirD l = (cdI a1 a2 b1 b2 c1 c2).tdiv (cgI (cxI a1 a2 b1 b2 c1 c2) (cyI a1 a2 b1 b2 c1 c2) (cdI a1 a2 b1 b2 c1 c2)) := by
  unfold cirX cirY cirD cirG
  rw [six_tri h, six_tri h, six_tri h]
  exact ⟨rfl, rfl, rfl⟩
set_option maxHeartbeats 1000000 in
theorem specCircleOfThree_any (A : Option Addr) (c : Nat) (l : List (Int × Int)) (w : World) (hn : l.length ≤ 1048576) (hcap : l.length ≤ c) (hc2 : c ≤ 9223372036854775807) (hR : Rd w w.heap.size A l) :
    Calls Try.prog 42 #[.slice A l.length c] w fun e w' => e = .returned (.tuple #[.int .i64 (isel (tB l) (cirX l)), .int .i64 (isel (tB l) (cirY l)), .int .i64 (isel (tB l) (cirD l)), .bool (tB l)]) ∧ Below w.heap.size w w' := by
  have K := Lib.hid (trThree_any A c l w hn hcap hc2 hR)
  by_cases ht : tB l = true
  · obtain ⟨a1, a2, b1, b2, c1, c2, htr⟩ := tB_true ht
    obtain ⟨u1, u2, u3, u4, u5, u6⟩ := tri_bd htr
    have htn := tri_turn htr
    rw [ht] at K ⊢
    rw [isel_t, isel_t, isel_t, (tri_cir htr).1, (tri_cir htr).2.1, (tri_cir htr).2.2]
    obtain ⟨rfl, hg⟩ := htr
    obtain ⟨b, off, rfl, hb, H3⟩ := rd3_of hR
    exact specCircle_walk b off c a1 a2 b1 b2 c1 c2 w hc2 hb u1 u2 u3 u4 u5 u6 htn K H3
  · have htf : tB l = false := by simpa using ht
    rw [htf] at K ⊢
    rw [isel_f, isel_f, isel_f]
    clear ht htf hR
    go_enter Try.func42, Try.ntmps42
    go_wp2_with fail
    refine K.out.mono ?_; rintro e w1 ⟨rfl, hb1⟩
    go_wp2_with fail
    refine bodyPost_ret (v := .tuple #[.int .i64 0, .int .i64 0, .int .i64 0, .bool false]) (by simp [results, Try.results42, go_sem]) rfl ⟨rfl, hb1⟩
set_option maxHeartbeats 1000000 in
theorem implCircleOfThree_any (A : Option Addr) (c : Nat) (l : List (Int × Int)) (w : World) (hn : l.length ≤ 1048576) (hR : Rd w w.heap.size A l) :
    Calls Try.prog 43 #[.slice A l.length c] w fun e w' => e = .returned (.tuple #[.int .i64 (isel (tB l) (cirX l)), .int .i64 (isel (tB l) (cirY l)), .int .i64 (isel (tB l) (cirD l)), .bool (tB l)]) ∧ Below w.heap.size w w' := by
  by_cases ht : tB l = true
  · obtain ⟨a1, a2, b1, b2, c1, c2, htr⟩ := tB_true ht
    have K := Lib.hid (threeOf_t A c l a1 a2 b1 b2 c1 c2 w hR htr)
    rw [ht, isel_t, isel_t, isel_t]
    have K3 := Lib.hid (fun W => circle_any l a1 a2 b1 b2 c1 c2 W htr (tri_turn htr))
    rw [← (tri_cir htr).1, ← (tri_cir htr).2.1, ← (tri_cir htr).2.2] at K3
    have T1 := tri_bd htr
    have E1 := tdiv_le (sixI cxI l) (cirG l)
    have E2 := tdiv_le (sixI cyI l) (cirG l)
    have E3 := tdiv_le (sixI cdI l) (cirG l)
    clear T1 E1 E2 E3 ht htr hR
    generalize cirX l = X at *
    generalize cirY l = Y at *
    generalize cirD l = D at *
    go_enter Try.func43, Try.ntmps43
    go_wp2_with fail
    refine K.out.mono ?_; rintro e w1 ⟨rfl, hb1⟩
    have BA := Below.alloc hb1 hb1.size (.cells #[.int .i64 a1, .int .i64 a2, .int .i64 b1, .int .i64 b2, .int .i64 c1, .int .i64 c2] 67)
    go_wp2_with fail
    refine (K3.out _).mono ?_; rintro e w2 ⟨rfl, hb2⟩
    have B2 := BA.trans (hb2.mono BA.size)
    have zz := B2.size
    clear BA hb1 hb2
    go_wp2_with fail
    obtain ⟨W0, hW0⟩ : ∃ W0, W0 = (w2.alloc (.cells #[.int .i64 X, .int .i64 Y] 46)) := ⟨_, rfl⟩
    rw [← hW0]
    have yW00_0 : W0.cell? ⟨w2.heap.size, 0, none⟩ = some (.int .i64 X) := by rw [hW0]; go_simp
    have yW00_1 : W0.cell? ⟨w2.heap.size, 1, none⟩ = some (.int .i64 Y) := by rw [hW0]; go_simp
    have fW00 : ∀ o, W0.frozen? ⟨w2.heap.size, o, none⟩ = false := by intro o; rw [hW0]; (repeat rw [frozen?_alloc_cells]); simp [World.frozen?]
    have zW00 : w2.heap.size < W0.heap.size := by rw [hW0]; simp <;> omega
    have BW0 : Below w2.heap.size w2 W0 := by rw [hW0]; exact (Below.alloc (Below.refl _ _) (by simp <;> omega) _)
    have eW0 : Hid (W0.heap.size = w2.heap.size + 1) := Lib.hid (by rw [hW0]; simp)
    clear hW0
    refine wp_region_B (fun W => Below W0.heap.size W0 W) (by kernel_rfl) (by repeat (first | exact Below.refl _ _ | apply Below.drew)) ?_
    first | refine wpB_skip 0 rfl (by kernel_rfl) (by kernel_rfl) (by kernel_rfl) (by rfl) ?_ | (refine wpB_text 0 (v := ?_) rfl (by kernel_rfl) (by kernel_rfl) (by kernel_rfl) (by rfl) (fun W hW => ?_) ?_; rotate_left; (have k1 := hW; obtain ⟨hc1, hf1⟩ := bcell k1; go_simp; refine comes_v ?_; exact k1))
    (try simp only [Act.put, List.setIfInBounds_toArray, List.set_cons_zero, List.set_cons_succ])
    first | refine wpB_skip 1 rfl (by kernel_rfl) (by kernel_rfl) (by kernel_rfl) (by rfl) ?_ | (refine wpB_text 1 (v := ?_) rfl (by kernel_rfl) (by kernel_rfl) (by kernel_rfl) (by rfl) (fun W hW => ?_) ?_; rotate_left; (have k1 := hW; obtain ⟨hc1, hf1⟩ := bcell k1; go_simp; refine comes_v ?_; exact k1))
    (try simp only [Act.put, List.setIfInBounds_toArray, List.set_cons_zero, List.set_cons_succ])
    first | refine wpB_skip 2 rfl (by kernel_rfl) (by kernel_rfl) (by kernel_rfl) (by rfl) ?_ | (refine wpB_text 2 (v := ?_) rfl (by kernel_rfl) (by kernel_rfl) (by kernel_rfl) (by rfl) (fun W hW => ?_) ?_; rotate_left; (have k1 := hW; obtain ⟨hc1, hf1⟩ := bcell k1; go_simp; refine comes_v ?_; exact k1))
    (try simp only [Act.put, List.setIfInBounds_toArray, List.set_cons_zero, List.set_cons_succ])
    first | refine wpB_skip 3 rfl (by kernel_rfl) (by kernel_rfl) (by kernel_rfl) (by rfl) ?_ | (refine wpB_text 3 (v := ?_) rfl (by kernel_rfl) (by kernel_rfl) (by kernel_rfl) (by rfl) (fun W hW => ?_) ?_; rotate_left; (have k1 := hW; obtain ⟨hc1, hf1⟩ := bcell k1; go_simp; refine comes_v ?_; exact k1))
    (try simp only [Act.put, List.setIfInBounds_toArray, List.set_cons_zero, List.set_cons_succ])
    first | refine wpB_skip 4 rfl (by kernel_rfl) (by kernel_rfl) (by kernel_rfl) (by rfl) ?_ | (refine wpB_text 4 (v := ?_) rfl (by kernel_rfl) (by kernel_rfl) (by kernel_rfl) (by rfl) (fun W hW => ?_) ?_; rotate_left; (have k1 := hW; obtain ⟨hc1, hf1⟩ := bcell k1; go_simp; refine comes_v ?_; exact k1))
    (try simp only [Act.put, List.setIfInBounds_toArray, List.set_cons_zero, List.set_cons_succ])
    first | refine wpB_skip 5 rfl (by kernel_rfl) (by kernel_rfl) (by kernel_rfl) (by rfl) ?_ | (refine wpB_text 5 (v := ?_) rfl (by kernel_rfl) (by kernel_rfl) (by kernel_rfl) (by rfl) (fun W hW => ?_) ?_; rotate_left; (have k1 := hW; obtain ⟨hc1, hf1⟩ := bcell k1; go_simp; refine comes_v ?_; exact k1))
    (try simp only [Act.put, List.setIfInBounds_toArray, List.set_cons_zero, List.set_cons_succ])
    first | refine wpB_skip 6 rfl (by kernel_rfl) (by kernel_rfl) (by kernel_rfl) (by rfl) ?_ | (refine wpB_text 6 (v := ?_) rfl (by kernel_rfl) (by kernel_rfl) (by kernel_rfl) (by rfl) (fun W hW => ?_) ?_; rotate_left; (have k1 := hW; obtain ⟨hc1, hf1⟩ := bcell k1; go_simp; refine comes_v ?_; exact k1))
    (try simp only [Act.put, List.setIfInBounds_toArray, List.set_cons_zero, List.set_cons_succ])
    first | refine wpB_skip 7 rfl (by kernel_rfl) (by kernel_rfl) (by kernel_rfl) (by rfl) ?_ | (refine wpB_text 7 (v := ?_) rfl (by kernel_rfl) (by kernel_rfl) (by kernel_rfl) (by rfl) (fun W hW => ?_) ?_; rotate_left; (have k1 := hW; obtain ⟨hc1, hf1⟩ := bcell k1; go_simp; refine comes_v ?_; exact k1))
    (try simp only [Act.put, List.setIfInBounds_toArray, List.set_cons_zero, List.set_cons_succ])
    first | refine wpB_skip 8 rfl (by kernel_rfl) (by kernel_rfl) (by kernel_rfl) (by rfl) ?_ | (refine wpB_text 8 (v := ?_) rfl (by kernel_rfl) (by kernel_rfl) (by kernel_rfl) (by rfl) (fun W hW => ?_) ?_; rotate_left; (have k1 := hW; obtain ⟨hc1, hf1⟩ := bcell k1; go_simp; refine comes_v ?_; exact k1))
    (try simp only [Act.put, List.setIfInBounds_toArray, List.set_cons_zero, List.set_cons_succ])
    refine wpB_done (by kernel_rfl) ?_ _
    intro W hW; have k1 := hW
    have B3 := B2.trans ((BW0.mono B2.size).trans (k1.mono (by have := BW0.size; have := B2.size; omega)))
    go_wp2_with fail
    refine bodyPost_ret (v := .tuple #[.int .i64 X, .int .i64 Y, .int .i64 D, .bool true]) (by simp [results, Try.results43, go_sem]) rfl ⟨rfl, B3⟩
  · have K := Lib.hid (threeOf_f A c l w hn hR ht)
    have htf : tB l = false := by simpa using ht
    rw [htf, isel_f, isel_f, isel_f]
    clear ht htf hR
    go_enter Try.func43, Try.ntmps43
    go_wp2_with fail
    refine K.out.mono ?_; rintro e w1 ⟨rfl, hb1⟩
    have BA := Below.alloc hb1 hb1.size (.cells #[.int .i64 0, .int .i64 0, .int .i64 0, .int .i64 0, .int .i64 0, .int .i64 0] 67)
    go_wp2_with fail
    refine bodyPost_ret (v := .tuple #[.int .i64 0, .int .i64 0, .int .i64 0, .bool false]) (by simp [results, Try.results43, go_sem]) rfl ⟨rfl, BA⟩
end Go.Proofs.Ytgjegildeejghaa
/- lists of numbers that come in: copied, opened, looked at -/
namespace Go.Proofs.Ytgjegildeejghaa
open Go.ChangeShapes Go.WideShapes Go.ChangeAt Go.RowKit Go.Joins
set_option linter.unusedVariables false
set_option linter.unusedSimpArgs false
set_option maxRecDepth 4000
open Go.Deep
/-- the slice's cells from address A on hold the numbers f 0, .., f (n - 1), below block z -/
def RdI (w : World) (z : Nat) (A : Option Addr) (n : Nat) (f : Nat → Int) : Prop :=
  0 < n → ∃ b off, A = some ⟨b, off, none⟩ ∧ b < z ∧ ∀ i, i < n → w.cell? ⟨b, off + i, none⟩ = some (.int .i64 (f i))
theorem rdi_below {w w' : World} {z : Nat} {A : Option Addr} {n : Nat} {f : Nat → Int} (h : RdI w z A n f) (hb : Below w.heap.size w w') (hz : z ≤ w.heap.size) : RdI w' w'.heap.size A n f := fun hn => by
  obtain ⟨b, off, e, h1, h2⟩ := h hn
  have := hb.size
  exact ⟨b, off, e, by omega, fun i hi => ((bcell hb).1 _ _ (by omega)).trans (h2 i hi)⟩
theorem rdi_of_rw {w : World} {lo B : Nat} {A : Option Addr} {n : Nat} {f : Nat → Int} (h : RwI w lo B A n f) (hB : B ≤ w.heap.size) : RdI w w.heap.size A n f := fun hn => by
  obtain ⟨b, off, e, h1, h2, h3⟩ := h hn
  exact ⟨b, off, e, by omega, fun i hi => (h3 i hi).1⟩
theorem int_info : (Try.prog.info? 3).map (fun i => (i.zero, i.size, i.bytes)) = some (some (.int .i64 0), 1, 8) := by kernel_rfl
/-- a new block of numbers: number g, the first k of them set -/
def SetI (w : World) (g n k : Nat) (f : Nat → Int) : Prop :=
  g < w.heap.size ∧ (∀ i, i < n → (∃ u, w.cell? ⟨g, i, none⟩ = some u) ∧ w.frozen? ⟨g, i, none⟩ = false) ∧ ∀ i, i < k → w.cell? ⟨g, i, none⟩ = some (.int .i64 (f i))
theorem seti_new (w : World) (t : TypeId) (n : Nat) (f : Nat → Int) : SetI (w.alloc (.cells (madeCells #[.int .i64 0] (n * 1)) t)) w.heap.size n 0 f := by
  refine ⟨by simp, fun i hi => ?_, fun i h => absurd h (Nat.not_lt_zero _)⟩
  have hs := size_madeCells #[.int .i64 0] (n * 1)
  exact ⟨⟨_, by rw [cell_of_row (w.alloc _) w.heap.size i _ t (0, 0) (heap_alloc_new w _)]; exact Array.getElem?_eq_getElem (by omega)⟩, by rw [frozen?_alloc_cells]; simp [World.frozen?]⟩
theorem seti_store {w : World} {g n k : Nat} {f : Nat → Int} (h : SetI w g n k f) (hk : k < n) : SetI (w.setCell ⟨g, k, none⟩ (.int .i64 (f k))) g n (k + 1) f := by
  obtain ⟨h1, h2, h3⟩ := h
  refine ⟨by simpa [World.setCell] using h1, fun i hi => ?_, fun i hi => ?_⟩
  · obtain ⟨⟨u, e⟩, z⟩ := h2 i hi
    exact ⟨cell?_setCell_some e, by rw [World.frozen?_setCell]; exact z⟩
  · by_cases hik : i = k
    · subst hik
      obtain ⟨⟨u, e⟩, _⟩ := h2 i hk
      exact World.cell?_setCell_same w _ _ e
    · rw [World.cell?_setCell_other w _ _ _ (fun e => hik (by injection e with e1 e2; exact e2.symm))]
      exact h3 i (by omega)
theorem rwi_of_seti {w : World} {lo g n : Nat} {f : Nat → Int} (h : SetI w g n n f) (hl : lo ≤ g) : RwI w lo w.heap.size (some ⟨g, 0, none⟩) n f := fun _ => by
  obtain ⟨h1, h2, h3⟩ := h
  exact ⟨g, 0, rfl, hl, h1, fun i hi => by rw [Nat.zero_add]; exact ⟨h3 i hi, (h2 i hi).2⟩⟩
set_option maxHeartbeats 1000000 in
theorem toIntS_any (A : Option Addr) (c n : Nat) (f : Nat → Int) (w : World) (hn : n ≤ 1048576) (hR : RdI w w.heap.size A n f) :
    Calls Try.prog 48 #[.slice A n c] w fun e w' => e = .returned (.slice (some ⟨w.heap.size, 0, none⟩) n n) ∧ Below w.heap.size w w' ∧ RwI w' w.heap.size w'.heap.size (some ⟨w.heap.size, 0, none⟩) n f := by
  obtain ⟨i0, hi0, hz0, hz1, hz2⟩ := info_parts int_info
  have hmk := fun W => run_make (P := Try.prog) W 30 3 i0 _ Try.underlying30 hi0 hz0 .i64 .i64 (n : Int) (n : Int) (by omega) (by omega) (by rw [hz2]; omega) (by omega)
  have HR := Lib.hid hR
  clear hR
  go_enter Try.func48, Try.ntmps48
  go_wp2_with fail
  have hS0 := Lib.hid (seti_new w 3 n f)
  have hB0 : Below w.heap.size w (w.alloc (.cells (madeCells #[.int .i64 0] (n * 1)) 3)) := (Below.refl _ _).alloc (Nat.le_refl _) _
  clear hmk
  simp only [Nat.mul_one] at hS0 hB0
  go_loopg [4] n (fun g i wr => ∃ k : Nat, k ≤ n ∧ g = n - k ∧ i = .int .i64 k ∧ Below w.heap.size w wr ∧ Hid (SetI wr w.heap.size n k f))
  case atStart => exact ⟨0, Nat.zero_le _, rfl, rfl, hB0, hS0⟩
  case round =>
    clear hB0 hS0
    obtain ⟨k, hk, hg, rfl, hB, hS⟩ := hrel
    rename World => wo
    have HGK := Lib.hid hg
    clear hg
    by_cases hlt : k < n
    · obtain ⟨b, off, rfl, hb, hcell⟩ := HR.out (by omega)
      have hq : wo.cell? ⟨b, off + k, none⟩ = some (.int .i64 (f k)) := (hB.cell (p := ⟨b, off + k, none⟩) hb).trans (hcell k hlt)
      have S1 := hS.out
      obtain ⟨g1, g2, g3⟩ := S1
      obtain ⟨⟨u1, d1⟩, d3⟩ := g2 k hlt
      have S2 := Lib.hid (seti_store hS.out hlt)
      have B2 := Lib.hid (hB.setCell (p := ⟨w.heap.size, k, none⟩) (Nat.le_refl _) (.int .i64 (f k)))
      clear g2 g3 hS hcell
      go_wp2_with fail
      go_roundg (n - (k + 1))
      case measure => have := HGK.out; omega
      case rel => exact ⟨k + 1, by omega, rfl, by go_num, B2.out, S2⟩
    · have hkn : n = k := by omega
      subst hkn
      go_wp2_with fail
      go_ret
      exact ⟨rfl, hB, rwi_of_seti hS.out (Nat.le_refl _)⟩
section
variable {H : Type} {enc : TypeId × Value → H}
/-- an argument that is a list of numbers -/
theorem open_numbers {w : World} {r : Reach} {b0 base : Nat} {spare : Nat → Bool} {v : Value} {d : DataW H} {p : List MemPlace} (hv : Value.okWide Try.prog w r b0 30 v)
    (h : DataW.Trod enc Try.prog w base spare true 30 v d p) : ∃ (A : Option Addr) (c n : Nat) (f : Nat → Int), v = .slice A n c ∧ n ≤ c ∧ c ≤ maxLen ∧ RdI w w.heap.size A n f := by
  obtain ⟨a0, len, cap, rfl⟩ := okWide_slice Try.underlying30 hv
  obtain ⟨fuel, hf⟩ := h
  rcases open_ints Try.underlying30 Try.underlying3 (by kernel_rfl) hf with ⟨hcs, _⟩ | ⟨a, len', cap', zs, hcs, _, hl, hm, hzl, _, hi, _⟩
  · simp [Value.cells] at hcs
    obtain ⟨rfl, rfl, rfl⟩ := hcs
    exact ⟨none, 0, 0, fun _ => 0, rfl, by simp, by simp, fun h => absurd h (by simp)⟩
  · simp [Value.cells] at hcs
    obtain ⟨rfl, rfl, rfl⟩ := hcs
    have hml : len ≤ zs.length := by rw [hzl]; split <;> omega
    refine ⟨some a, cap, len, fun i => zs.getD i 0, rfl, hl, hm, fun hpos => ?_⟩
    have k0 := hi 0 (by omega)
    obtain ⟨b, off, spot⟩ := a
    have hspot : spot = none := by simpa [Addr.add] using World.cell?_spot k0
    subst hspot
    refine ⟨b, off, rfl, ?_, fun i hq => ?_⟩
    · have := lt_of_cell k0
      rw [add_plain] at this
      exact this
    · have := hi i (by omega)
      rw [add_plain] at this
      exact this
end
end Go.Proofs.Ytgjegildeejghaa
/- contract: PegOfParts, the model, at a triangle and three numbers -/
namespace Go.Proofs.Ytgjegildeejghaa
open Go.ChangeShapes Go.WideShapes Go.ChangeAt Go.RowKit Go.Joins
set_option linter.unusedVariables false
set_option linter.unusedSimpArgs false
set_option maxRecDepth 4000
def numB (x : Int) : Bool := decide (-1000000 ≤ x) && decide (x ≤ 1000000)
def pqB (x y z T X Y : Int) : Bool := (numB x && (numB y && numB z)) && (decide (x + y + z = T) && (decide (X.tmod T = 0) && (decide (Y.tmod T = 0) && isPegB (X.tdiv T) (Y.tdiv T))))
/-- three numbers in memory -/
def Ri3 (w : World) (b off : Nat) (x y z : Int) : Prop := w.cell? ⟨b, off, none⟩ = some (.int .i64 x) ∧ w.cell? ⟨b, off + 1, none⟩ = some (.int .i64 y) ∧ w.cell? ⟨b, off + 2, none⟩ = some (.int .i64 z)
theorem ri3_of {w : World} {A : Option Addr} {f : Nat → Int} (h : RdI w w.heap.size A 3 f) : ∃ b off, A = some ⟨b, off, none⟩ ∧ b < w.heap.size ∧ Hid (∀ W, Below w.heap.size w W → Ri3 W b off (f 0) (f 1) (f 2)) := by
  obtain ⟨b, off, e, hb, hc⟩ := h (by omega)
  refine ⟨b, off, e, hb, Lib.hid fun W hW => ?_⟩
  have c := fun o => hW.cell (p := ⟨b, o, none⟩) hb
  exact ⟨(c _).trans (hc 0 (by omega)), (c _).trans (hc 1 (by omega)), (c _).trans (hc 2 (by omega))⟩
set_option maxHeartbeats 1000000 in
theorem l1All3_any (b off c : Nat) (x y z : Int) (w : World) (hb : b < w.heap.size) (H : Hid (∀ W, Below w.heap.size w W → Ri3 W b off x y z)) :
    Calls Try.prog 78 #[.slice (some ⟨b, off, none⟩) 3 c, .int .i64 (-1000000), .int .i64 1000000] w fun e w' => e = .returned (.bool (numB x && (numB y && numB z))) ∧ Below w.heap.size w w' := by
  have KI := Lib.hid (fun n W => l1In_any n (-1000000) 1000000 W)
  go_enter Try.func78, Try.ntmps78
  go_wp2_with fail
  go_loopg [11] 3 (fun g i wr => ∃ k : Nat, k ≤ 3 ∧ g = 3 - k ∧ i = .int .i64 k ∧ Below w.heap.size w wr ∧ Hid ((0 < k → numB x = true) ∧ (1 < k → numB y = true) ∧ (2 < k → numB z = true)))
  case atStart => exact ⟨0, Nat.zero_le _, rfl, rfl, Below.refl _ _, Lib.hid ⟨fun h => absurd h (by omega), fun h => absurd h (by omega), fun h => absurd h (by omega)⟩⟩
  case round =>
    obtain ⟨k, hk, hg, rfl, hB, hF⟩ := hrel
    rename World => wo
    obtain ⟨x0, x1, x2⟩ := H.out wo hB
    have hz : b < wo.heap.size := by have := hB.size; omega
    rcases (show k = 0 ∨ k = 1 ∨ k = 2 ∨ k = 3 by omega) with rfl | rfl | rfl | rfl
    · by_cases hn : numB x = true
      · have HN := Lib.hid hn
        unfold numB at hn
        have F2 := Lib.hid (show ((0 < 1 → numB x = true) ∧ (1 < 1 → numB y = true) ∧ (2 < 1 → numB z = true)) from ⟨fun _ => HN.out, fun h => absurd h (by omega), fun h => absurd h (by omega)⟩)
        go_wp2_with fail
        refine (KI.out _ _).mono ?_; rintro e _ ⟨rfl, rfl⟩
        rw [hn]
        clear hn
        go_wp2_with fail
        go_roundg (3 - (0 + 1))
        case measure => omega
        case rel => exact ⟨0 + 1, by omega, rfl, by go_num, hB, F2⟩
      · have hn2 : numB x = false := by simpa using hn
        have HN := Lib.hid hn2
        unfold numB at hn2
        clear hn
        go_wp2_with fail
        refine (KI.out _ _).mono ?_; rintro e _ ⟨rfl, rfl⟩
        rw [hn2]
        clear hn2
        go_wp2_with fail
        go_ret
        exact ⟨by rw [HN.out]; rfl, hB⟩
    · by_cases hn : numB y = true
      · have HN := Lib.hid hn
        unfold numB at hn
        have F2 := Lib.hid (show ((0 < 2 → numB x = true) ∧ (1 < 2 → numB y = true) ∧ (2 < 2 → numB z = true)) from ⟨fun _ => hF.out.1 (by omega), fun _ => HN.out, fun h => absurd h (by omega)⟩)
        go_wp2_with fail
        refine (KI.out _ _).mono ?_; rintro e _ ⟨rfl, rfl⟩
        rw [hn]
        clear hn
        go_wp2_with fail
        go_roundg (3 - (1 + 1))
        case measure => omega
        case rel => exact ⟨1 + 1, by omega, rfl, by go_num, hB, F2⟩
      · have hn2 : numB y = false := by simpa using hn
        have HN := Lib.hid hn2
        unfold numB at hn2
        clear hn
        go_wp2_with fail
        refine (KI.out _ _).mono ?_; rintro e _ ⟨rfl, rfl⟩
        rw [hn2]
        clear hn2
        go_wp2_with fail
        go_ret
        exact ⟨by rw [HN.out]; simp, hB⟩
    · by_cases hn : numB z = true
      · have HN := Lib.hid hn
        unfold numB at hn
        have F2 := Lib.hid (show ((0 < 3 → numB x = true) ∧ (1 < 3 → numB y = true) ∧ (2 < 3 → numB z = true)) from ⟨fun _ => hF.out.1 (by omega), fun _ => hF.out.2.1 (by omega), fun _ => HN.out⟩)
        go_wp2_with fail
        refine (KI.out _ _).mono ?_; rintro e _ ⟨rfl, rfl⟩
        rw [hn]
        clear hn
        go_wp2_with fail
        go_roundg (3 - (2 + 1))
        case measure => omega
        case rel => exact ⟨2 + 1, by omega, rfl, by go_num, hB, F2⟩
      · have hn2 : numB z = false := by simpa using hn
        have HN := Lib.hid hn2
        unfold numB at hn2
        clear hn
        go_wp2_with fail
        refine (KI.out _ _).mono ?_; rintro e _ ⟨rfl, rfl⟩
        rw [hn2]
        clear hn2
        go_wp2_with fail
        go_ret
        exact ⟨by rw [HN.out]; simp, hB⟩
    · go_wp2_with fail
      go_ret
      exact ⟨by rw [hF.out.1 (by omega), hF.out.2.1 (by omega), hF.out.2.2 (by omega)]; rfl, hB⟩
end Go.Proofs.Ytgjegildeejghaa
/- contract: PegOfParts, the model, at a triangle and three numbers -/
namespace Go.Proofs.Ytgjegildeejghaa
open Go.ChangeShapes Go.WideShapes Go.ChangeAt Go.RowKit Go.Joins
set_option linter.unusedVariables false
set_option linter.unusedSimpArgs false
set_option maxRecDepth 4000
set_option maxHeartbeats 4000000 in
theorem specParts_walk (b off c b' off' c' : Nat) (a1 a2 b1 b2 c1 c2 x y z T X Y : Int) (w : World) (hc2 : c ≤ 9223372036854775807) (hb : b < w.heap.size) (hbb : b' < w.heap.size)
    (U : Hid ((-40 ≤ a1 ∧ a1 ≤ 40) ∧ (-40 ≤ a2 ∧ a2 ≤ 40) ∧ (-40 ≤ b1 ∧ b1 ≤ 40) ∧ (-40 ≤ b2 ∧ b2 ≤ 40) ∧ (-40 ≤ c1 ∧ c1 ≤ 40) ∧ (-40 ≤ c2 ∧ c2 ≤ 40)))
    (hT0 : ¬ T = 0) (hT1 : -80000000000 ≤ T) (hT2 : T ≤ 80000000000)
    (hX : Hid (x * a1 + y * b1 + z * c1 = X)) (hY : Hid (x * a2 + y * b2 + z * c2 = Y))
    (K : Hid (∀ W, Below w.heap.size w W → Calls Try.prog 53 #[.slice (some ⟨b, off, none⟩) 3 c] W fun e w' => e = .returned (.bool true) ∧ Below W.heap.size W w'))
    (KR : Hid (∀ W, Below w.heap.size w W → Calls Try.prog 55 #[.slice (some ⟨b, off, none⟩) 3 c] W fun e w' => e = .returned (.int .i64 T) ∧ Below W.heap.size W w'))
    (KA : Hid (∀ W, Below w.heap.size w W → Calls Try.prog 78 #[.slice (some ⟨b', off', none⟩) 3 c', .int .i64 (-1000000), .int .i64 1000000] W fun e w' => e = .returned (.bool (numB x && (numB y && numB z))) ∧ Below W.heap.size W w'))
    (H3 : Hid (∀ W, Below w.heap.size w W → Rd3 W b off a1 a2 b1 b2 c1 c2)) (HN : Hid (∀ W, Below w.heap.size w W → Ri3 W b' off' x y z)) :
    Calls Try.prog 47 #[.slice (some ⟨b, off, none⟩) 3 c, .slice (some ⟨b', off', none⟩) 3 c'] w fun e w' => e = .returned (.tuple #[.agg #[.int .i64 (isel (pqB x y z T X Y) (X.tdiv T)), .int .i64 (isel (pqB x y z T X Y) (Y.tdiv T))], .bool (pqB x y z T X Y)]) ∧ Below w.heap.size w w' := by
  have KP := Lib.hid (fun W => pgIs_any (X.tdiv T) (Y.tdiv T) W)
  by_cases hn : (numB x && (numB y && numB z)) = true
  · have E0 : Hid (pqB x y z T X Y = (decide (x + y + z = T) && (decide (X.tmod T = 0) && (decide (Y.tmod T = 0) && isPegB (X.tdiv T) (Y.tdiv T))))) := Lib.hid (by unfold pqB; rw [hn, Bool.true_and])
    rw [hn] at KA
    have hb3 : (-1000000 ≤ x ∧ x ≤ 1000000) ∧ (-1000000 ≤ y ∧ y ≤ 1000000) ∧ (-1000000 ≤ z ∧ z ≤ 1000000) := by
      unfold numB at hn
      simp only [Bool.and_eq_true, decide_eq_true_eq] at hn
      exact ⟨hn.1, hn.2.1, hn.2.2⟩
    generalize pqB x y z T X Y = ok at *
    clear hn
    obtain ⟨u1, u2, u3, u4, u5, u6⟩ := U.out
    obtain ⟨n1, n2, n3⟩ := hb3
    have m1 := mul_bd (x := x) (y := a1) (m := 1000000) (n := 40) (by omega) (by omega) (by omega) (by omega)
    have m2 := mul_bd (x := y) (y := b1) (m := 1000000) (n := 40) (by omega) (by omega) (by omega) (by omega)
    have m3 := mul_bd (x := z) (y := c1) (m := 1000000) (n := 40) (by omega) (by omega) (by omega) (by omega)
    have m4 := mul_bd (x := x) (y := a2) (m := 1000000) (n := 40) (by omega) (by omega) (by omega) (by omega)
    have m5 := mul_bd (x := y) (y := b2) (m := 1000000) (n := 40) (by omega) (by omega) (by omega) (by omega)
    have m6 := mul_bd (x := z) (y := c2) (m := 1000000) (n := 40) (by omega) (by omega) (by omega) (by omega)
    have W1 : Hid (IntKind.i64.wrap (x + y) = x + y ∧ IntKind.i64.wrap (x + y + z) = x + y + z) := Lib.hid ⟨IntWalk.i64_in _ (by omega), IntWalk.i64_in _ (by omega)⟩
    have W2 : Hid (IntKind.i64.wrap (x * a1) = x * a1 ∧ IntKind.i64.wrap (y * b1) = y * b1 ∧ IntKind.i64.wrap (z * c1) = z * c1 ∧ IntKind.i64.wrap (x * a1 + y * b1) = x * a1 + y * b1 ∧ IntKind.i64.wrap (x * a1 + y * b1 + z * c1) = x * a1 + y * b1 + z * c1) := Lib.hid ⟨IntWalk.i64_in _ (by omega), IntWalk.i64_in _ (by omega), IntWalk.i64_in _ (by omega), IntWalk.i64_in _ (by omega), IntWalk.i64_in _ (by omega)⟩
    have W3 : Hid (IntKind.i64.wrap (x * a2) = x * a2 ∧ IntKind.i64.wrap (y * b2) = y * b2 ∧ IntKind.i64.wrap (z * c2) = z * c2 ∧ IntKind.i64.wrap (x * a2 + y * b2) = x * a2 + y * b2 ∧ IntKind.i64.wrap (x * a2 + y * b2 + z * c2) = x * a2 + y * b2 + z * c2) := Lib.hid ⟨IntWalk.i64_in _ (by omega), IntWalk.i64_in _ (by omega), IntWalk.i64_in _ (by omega), IntWalk.i64_in _ (by omega), IntWalk.i64_in _ (by omega)⟩
    have XB : -1000000000 ≤ X ∧ X ≤ 1000000000 := by have := hX.out; omega
    have YB : -1000000000 ≤ Y ∧ Y ≤ 1000000000 := by have := hY.out; omega
    obtain ⟨X1, X2⟩ := XB
    obtain ⟨Y1, Y2⟩ := YB
    clear m1 m2 m3 m4 m5 m6 u1 u2 u3 u4 u5 u6 n1 n2 n3
    go_enter Try.func47, Try.ntmps47
    go_wp2_with fail
    obtain ⟨Wa, hWa⟩ : ∃ Wa, Wa = (w.alloc (.cells #[.int .i64 0, .int .i64 0] 46)) := ⟨_, rfl⟩
    rw [← hWa]
    have yWa0_0 : Wa.cell? ⟨w.heap.size, 0, none⟩ = some (.int .i64 0) := by rw [hWa]; go_simp
    have yWa0_1 : Wa.cell? ⟨w.heap.size, 1, none⟩ = some (.int .i64 0) := by rw [hWa]; go_simp
    have fWa0 : ∀ o, Wa.frozen? ⟨w.heap.size, o, none⟩ = false := by intro o; rw [hWa]; (repeat rw [frozen?_alloc_cells]); simp [World.frozen?]
    have zWa0 : w.heap.size < Wa.heap.size := by rw [hWa]; simp <;> omega
    have BWa : Below w.heap.size w Wa := by rw [hWa]; exact (Below.alloc (Below.refl _ _) (by simp <;> omega) _)
    have eWa : Hid (Wa.heap.size = w.heap.size + 1) := Lib.hid (by rw [hWa]; simp)
    clear hWa
    have S0 := Lib.hid (show MsR w Wa Wa w.heap.size (0, 0) from ⟨BWa, Nat.le_refl _, fun b o _ _ => ⟨rfl, rfl⟩, yWa0_0, yWa0_1, fWa0⟩)
    refine (K.out _ BWa).mono ?_; rintro e w1 ⟨rfl, hb1⟩
    have S1 := Lib.hid (msr_below S0.out zWa0 hb1)
    have B1 := S1.out.below
    clear yWa0_0 yWa0_1 fWa0 eWa BWa hb1 S0 K
    go_wp2_with fail
    refine (KA.out _ B1).mono ?_; rintro e w2 ⟨rfl, hb2⟩
    have S2 := Lib.hid (msr_below S1.out zWa0 hb2)
    have B2 := S2.out.below
    clear hb2 S1 B1 KA
    go_wp2_with fail
    refine (KR.out _ B2).mono ?_; rintro e w3 ⟨rfl, hb3⟩
    have S3 := Lib.hid (msr_below S2.out zWa0 hb3)
    have B3 := S3.out.below
    obtain ⟨i0, i1, i2⟩ := HN.out w3 B3
    have zi : b' < w3.heap.size := by have := B3.size; omega
    obtain ⟨ee1, ee2⟩ := W1.out
    clear hb3 S2 B2 KR
    go_wp2_with fail
    refine wp_region_B (fun W => Below w3.heap.size w3 W) (by kernel_rfl) (by repeat (first | exact Below.refl _ _ | apply Below.drew)) ?_
    first | refine wpB_skip 0 rfl (by kernel_rfl) (by kernel_rfl) (by kernel_rfl) (by rfl) ?_ | (refine wpB_text 0 (v := ?_) rfl (by kernel_rfl) (by kernel_rfl) (by kernel_rfl) (by rfl) (fun W hW => ?_) ?_; rotate_left; (have k1 := hW; obtain ⟨hc1, hf1⟩ := bcell k1; go_simp; refine comes_v ?_; exact k1))
    (try simp only [Act.put, List.setIfInBounds_toArray, List.set_cons_zero, List.set_cons_succ])
    first | refine wpB_skip 1 rfl (by kernel_rfl) (by kernel_rfl) (by kernel_rfl) (by rfl) ?_ | (refine wpB_text 1 (v := ?_) rfl (by kernel_rfl) (by kernel_rfl) (by kernel_rfl) (by rfl) (fun W hW => ?_) ?_; rotate_left; (have k1 := hW; obtain ⟨hc1, hf1⟩ := bcell k1; go_simp; refine comes_v ?_; exact k1))
    (try simp only [Act.put, List.setIfInBounds_toArray, List.set_cons_zero, List.set_cons_succ])
    first | refine wpB_skip 2 rfl (by kernel_rfl) (by kernel_rfl) (by kernel_rfl) (by rfl) ?_ | (refine wpB_text 2 (v := ?_) rfl (by kernel_rfl) (by kernel_rfl) (by kernel_rfl) (by rfl) (fun W hW => ?_) ?_; rotate_left; (have k1 := hW; obtain ⟨hc1, hf1⟩ := bcell k1; go_simp; refine comes_v ?_; exact k1))
    (try simp only [Act.put, List.setIfInBounds_toArray, List.set_cons_zero, List.set_cons_succ])
    first | refine wpB_skip 3 rfl (by kernel_rfl) (by kernel_rfl) (by kernel_rfl) (by rfl) ?_ | (refine wpB_text 3 (v := ?_) rfl (by kernel_rfl) (by kernel_rfl) (by kernel_rfl) (by rfl) (fun W hW => ?_) ?_; rotate_left; (have k1 := hW; obtain ⟨hc1, hf1⟩ := bcell k1; go_simp; refine comes_v ?_; exact k1))
    (try simp only [Act.put, List.setIfInBounds_toArray, List.set_cons_zero, List.set_cons_succ])
    first | refine wpB_skip 4 rfl (by kernel_rfl) (by kernel_rfl) (by kernel_rfl) (by rfl) ?_ | (refine wpB_text 4 (v := ?_) rfl (by kernel_rfl) (by kernel_rfl) (by kernel_rfl) (by rfl) (fun W hW => ?_) ?_; rotate_left; (have k1 := hW; obtain ⟨hc1, hf1⟩ := bcell k1; go_simp; refine comes_v ?_; exact k1))
    (try simp only [Act.put, List.setIfInBounds_toArray, List.set_cons_zero, List.set_cons_succ])
    first | refine wpB_skip 5 rfl (by kernel_rfl) (by kernel_rfl) (by kernel_rfl) (by rfl) ?_ | (refine wpB_text 5 (v := ?_) rfl (by kernel_rfl) (by kernel_rfl) (by kernel_rfl) (by rfl) (fun W hW => ?_) ?_; rotate_left; (have k1 := hW; obtain ⟨hc1, hf1⟩ := bcell k1; go_simp; refine comes_v ?_; exact k1))
    (try simp only [Act.put, List.setIfInBounds_toArray, List.set_cons_zero, List.set_cons_succ])
    first | refine wpB_skip 6 rfl (by kernel_rfl) (by kernel_rfl) (by kernel_rfl) (by rfl) ?_ | (refine wpB_text 6 (v := ?_) rfl (by kernel_rfl) (by kernel_rfl) (by kernel_rfl) (by rfl) (fun W hW => ?_) ?_; rotate_left; (have k1 := hW; obtain ⟨hc1, hf1⟩ := bcell k1; go_simp; refine comes_v ?_; exact k1))
    (try simp only [Act.put, List.setIfInBounds_toArray, List.set_cons_zero, List.set_cons_succ])
    first | refine wpB_skip 7 rfl (by kernel_rfl) (by kernel_rfl) (by kernel_rfl) (by rfl) ?_ | (refine wpB_text 7 (v := ?_) rfl (by kernel_rfl) (by kernel_rfl) (by kernel_rfl) (by rfl) (fun W hW => ?_) ?_; rotate_left; (have k1 := hW; obtain ⟨hc1, hf1⟩ := bcell k1; go_simp; refine comes_v ?_; exact k1))
    (try simp only [Act.put, List.setIfInBounds_toArray, List.set_cons_zero, List.set_cons_succ])
    first | refine wpB_skip 8 rfl (by kernel_rfl) (by kernel_rfl) (by kernel_rfl) (by rfl) ?_ | (refine wpB_text 8 (v := ?_) rfl (by kernel_rfl) (by kernel_rfl) (by kernel_rfl) (by rfl) (fun W hW => ?_) ?_; rotate_left; (have k1 := hW; obtain ⟨hc1, hf1⟩ := bcell k1; go_simp; refine comes_v ?_; exact k1))
    (try simp only [Act.put, List.setIfInBounds_toArray, List.set_cons_zero, List.set_cons_succ])
    first | refine wpB_skip 9 rfl (by kernel_rfl) (by kernel_rfl) (by kernel_rfl) (by rfl) ?_ | (refine wpB_text 9 (v := ?_) rfl (by kernel_rfl) (by kernel_rfl) (by kernel_rfl) (by rfl) (fun W hW => ?_) ?_; rotate_left; (have k1 := hW; obtain ⟨hc1, hf1⟩ := bcell k1; go_simp; refine comes_v ?_; exact k1))
    (try simp only [Act.put, List.setIfInBounds_toArray, List.set_cons_zero, List.set_cons_succ])
    first | refine wpB_skip 10 rfl (by kernel_rfl) (by kernel_rfl) (by kernel_rfl) (by rfl) ?_ | (refine wpB_text 10 (v := ?_) rfl (by kernel_rfl) (by kernel_rfl) (by kernel_rfl) (by rfl) (fun W hW => ?_) ?_; rotate_left; (have k1 := hW; obtain ⟨hc1, hf1⟩ := bcell k1; go_simp; refine comes_v ?_; exact k1))
    (try simp only [Act.put, List.setIfInBounds_toArray, List.set_cons_zero, List.set_cons_succ])
    first | refine wpB_skip 11 rfl (by kernel_rfl) (by kernel_rfl) (by kernel_rfl) (by rfl) ?_ | (refine wpB_text 11 (v := ?_) rfl (by kernel_rfl) (by kernel_rfl) (by kernel_rfl) (by rfl) (fun W hW => ?_) ?_; rotate_left; (have k1 := hW; obtain ⟨hc1, hf1⟩ := bcell k1; go_simp; refine comes_v ?_; exact k1))
    (try simp only [Act.put, List.setIfInBounds_toArray, List.set_cons_zero, List.set_cons_succ])
    first | refine wpB_skip 12 rfl (by kernel_rfl) (by kernel_rfl) (by kernel_rfl) (by rfl) ?_ | (refine wpB_text 12 (v := ?_) rfl (by kernel_rfl) (by kernel_rfl) (by kernel_rfl) (by rfl) (fun W hW => ?_) ?_; rotate_left; (have k1 := hW; obtain ⟨hc1, hf1⟩ := bcell k1; go_simp; refine comes_v ?_; exact k1))
    (try simp only [Act.put, List.setIfInBounds_toArray, List.set_cons_zero, List.set_cons_succ])
    refine wpB_done (by kernel_rfl) ?_ _
    intro W hW; have k1 := hW
    have S4 := Lib.hid (msr_below S3.out zWa0 k1)
    have B4 := S4.out.below
    clear k1 i0 i1 i2 zi ee1 ee2 S3 B3
    rename World => w4
    by_cases hs : x + y + z = T
    · have hsb : (x + y + z != T) = false := by simpa using hs
      obtain ⟨i0, i1, i2⟩ := HN.out w4 B4
      obtain ⟨x0, x1, x2, x3, x4, x5⟩ := H3.out w4 B4
      have zi : b' < w4.heap.size := by have := B4.size; omega
      have zj : b < w4.heap.size := by have := B4.size; omega
      obtain ⟨ee1, ee2, ee3, ee4, ee5⟩ := W2.out
      go_wp2_with fail
      refine wp_region_B (fun W => Below w4.heap.size w4 W) (by kernel_rfl) (by repeat (first | exact Below.refl _ _ | apply Below.drew)) ?_
      first | refine wpB_skip 0 rfl (by kernel_rfl) (by kernel_rfl) (by kernel_rfl) (by rfl) ?_ | (refine wpB_text 0 (v := ?_) rfl (by kernel_rfl) (by kernel_rfl) (by kernel_rfl) (by rfl) (fun W hW => ?_) ?_; rotate_left; (have k1 := hW; obtain ⟨hc1, hf1⟩ := bcell k1; go_simp; refine comes_v ?_; exact k1))
      (try simp only [Act.put, List.setIfInBounds_toArray, List.set_cons_zero, List.set_cons_succ])
      first | refine wpB_skip 1 rfl (by kernel_rfl) (by kernel_rfl) (by kernel_rfl) (by rfl) ?_ | (refine wpB_text 1 (v := ?_) rfl (by kernel_rfl) (by kernel_rfl) (by kernel_rfl) (by rfl) (fun W hW => ?_) ?_; rotate_left; (have k1 := hW; obtain ⟨hc1, hf1⟩ := bcell k1; go_simp; refine comes_v ?_; exact k1))
      (try simp only [Act.put, List.setIfInBounds_toArray, List.set_cons_zero, List.set_cons_succ])
      first | refine wpB_skip 2 rfl (by kernel_rfl) (by kernel_rfl) (by kernel_rfl) (by rfl) ?_ | (refine wpB_text 2 (v := ?_) rfl (by kernel_rfl) (by kernel_rfl) (by kernel_rfl) (by rfl) (fun W hW => ?_) ?_; rotate_left; (have k1 := hW; obtain ⟨hc1, hf1⟩ := bcell k1; go_simp; refine comes_v ?_; exact k1))
      (try simp only [Act.put, List.setIfInBounds_toArray, List.set_cons_zero, List.set_cons_succ])
      first | refine wpB_skip 3 rfl (by kernel_rfl) (by kernel_rfl) (by kernel_rfl) (by rfl) ?_ | (refine wpB_text 3 (v := ?_) rfl (by kernel_rfl) (by kernel_rfl) (by kernel_rfl) (by rfl) (fun W hW => ?_) ?_; rotate_left; (have k1 := hW; obtain ⟨hc1, hf1⟩ := bcell k1; go_simp; refine comes_v ?_; exact k1))
      (try simp only [Act.put, List.setIfInBounds_toArray, List.set_cons_zero, List.set_cons_succ])
      first | refine wpB_skip 4 rfl (by kernel_rfl) (by kernel_rfl) (by kernel_rfl) (by rfl) ?_ | (refine wpB_text 4 (v := ?_) rfl (by kernel_rfl) (by kernel_rfl) (by kernel_rfl) (by rfl) (fun W hW => ?_) ?_; rotate_left; (have k1 := hW; obtain ⟨hc1, hf1⟩ := bcell k1; go_simp; refine comes_v ?_; exact k1))
      (try simp only [Act.put, List.setIfInBounds_toArray, List.set_cons_zero, List.set_cons_succ])
      first | refine wpB_skip 5 rfl (by kernel_rfl) (by kernel_rfl) (by kernel_rfl) (by rfl) ?_ | (refine wpB_text 5 (v := ?_) rfl (by kernel_rfl) (by kernel_rfl) (by kernel_rfl) (by rfl) (fun W hW => ?_) ?_; rotate_left; (have k1 := hW; obtain ⟨hc1, hf1⟩ := bcell k1; go_simp; refine comes_v ?_; exact k1))
      (try simp only [Act.put, List.setIfInBounds_toArray, List.set_cons_zero, List.set_cons_succ])
      first | refine wpB_skip 6 rfl (by kernel_rfl) (by kernel_rfl) (by kernel_rfl) (by rfl) ?_ | (refine wpB_text 6 (v := ?_) rfl (by kernel_rfl) (by kernel_rfl) (by kernel_rfl) (by rfl) (fun W hW => ?_) ?_; rotate_left; (have k1 := hW; obtain ⟨hc1, hf1⟩ := bcell k1; go_simp; refine comes_v ?_; exact k1))
      (try simp only [Act.put, List.setIfInBounds_toArray, List.set_cons_zero, List.set_cons_succ])
      first | refine wpB_skip 7 rfl (by kernel_rfl) (by kernel_rfl) (by kernel_rfl) (by rfl) ?_ | (refine wpB_text 7 (v := ?_) rfl (by kernel_rfl) (by kernel_rfl) (by kernel_rfl) (by rfl) (fun W hW => ?_) ?_; rotate_left; (have k1 := hW; obtain ⟨hc1, hf1⟩ := bcell k1; go_simp; refine comes_v ?_; exact k1))
      (try simp only [Act.put, List.setIfInBounds_toArray, List.set_cons_zero, List.set_cons_succ])
      first | refine wpB_skip 8 rfl (by kernel_rfl) (by kernel_rfl) (by kernel_rfl) (by rfl) ?_ | (refine wpB_text 8 (v := ?_) rfl (by kernel_rfl) (by kernel_rfl) (by kernel_rfl) (by rfl) (fun W hW => ?_) ?_; rotate_left; (have k1 := hW; obtain ⟨hc1, hf1⟩ := bcell k1; go_simp; refine comes_v ?_; exact k1))
      (try simp only [Act.put, List.setIfInBounds_toArray, List.set_cons_zero, List.set_cons_succ])
      first | refine wpB_skip 9 rfl (by kernel_rfl) (by kernel_rfl) (by kernel_rfl) (by rfl) ?_ | (refine wpB_text 9 (v := ?_) rfl (by kernel_rfl) (by kernel_rfl) (by kernel_rfl) (by rfl) (fun W hW => ?_) ?_; rotate_left; (have k1 := hW; obtain ⟨hc1, hf1⟩ := bcell k1; go_simp; refine comes_v ?_; exact k1))
      (try simp only [Act.put, List.setIfInBounds_toArray, List.set_cons_zero, List.set_cons_succ])
      first | refine wpB_skip 10 rfl (by kernel_rfl) (by kernel_rfl) (by kernel_rfl) (by rfl) ?_ | (refine wpB_text 10 (v := ?_) rfl (by kernel_rfl) (by kernel_rfl) (by kernel_rfl) (by rfl) (fun W hW => ?_) ?_; rotate_left; (have k1 := hW; obtain ⟨hc1, hf1⟩ := bcell k1; go_simp; refine comes_v ?_; exact k1))
      (try simp only [Act.put, List.setIfInBounds_toArray, List.set_cons_zero, List.set_cons_succ])
      first | refine wpB_skip 11 rfl (by kernel_rfl) (by kernel_rfl) (by kernel_rfl) (by rfl) ?_ | (refine wpB_text 11 (v := ?_) rfl (by kernel_rfl) (by kernel_rfl) (by kernel_rfl) (by rfl) (fun W hW => ?_) ?_; rotate_left; (have k1 := hW; obtain ⟨hc1, hf1⟩ := bcell k1; go_simp; refine comes_v ?_; exact k1))
      (try simp only [Act.put, List.setIfInBounds_toArray, List.set_cons_zero, List.set_cons_succ])
      first | refine wpB_skip 12 rfl (by kernel_rfl) (by kernel_rfl) (by kernel_rfl) (by rfl) ?_ | (refine wpB_text 12 (v := ?_) rfl (by kernel_rfl) (by kernel_rfl) (by kernel_rfl) (by rfl) (fun W hW => ?_) ?_; rotate_left; (have k1 := hW; obtain ⟨hc1, hf1⟩ := bcell k1; go_simp; refine comes_v ?_; exact k1))
      (try simp only [Act.put, List.setIfInBounds_toArray, List.set_cons_zero, List.set_cons_succ])
      first | refine wpB_skip 13 rfl (by kernel_rfl) (by kernel_rfl) (by kernel_rfl) (by rfl) ?_ | (refine wpB_text 13 (v := ?_) rfl (by kernel_rfl) (by kernel_rfl) (by kernel_rfl) (by rfl) (fun W hW => ?_) ?_; rotate_left; (have k1 := hW; obtain ⟨hc1, hf1⟩ := bcell k1; go_simp; refine comes_v ?_; exact k1))
      (try simp only [Act.put, List.setIfInBounds_toArray, List.set_cons_zero, List.set_cons_succ])
      first | refine wpB_skip 14 rfl (by kernel_rfl) (by kernel_rfl) (by kernel_rfl) (by rfl) ?_ | (refine wpB_text 14 (v := ?_) rfl (by kernel_rfl) (by kernel_rfl) (by kernel_rfl) (by rfl) (fun W hW => ?_) ?_; rotate_left; (have k1 := hW; obtain ⟨hc1, hf1⟩ := bcell k1; go_simp; refine comes_v ?_; exact k1))
      (try simp only [Act.put, List.setIfInBounds_toArray, List.set_cons_zero, List.set_cons_succ])
      first | refine wpB_skip 15 rfl (by kernel_rfl) (by kernel_rfl) (by kernel_rfl) (by rfl) ?_ | (refine wpB_text 15 (v := ?_) rfl (by kernel_rfl) (by kernel_rfl) (by kernel_rfl) (by rfl) (fun W hW => ?_) ?_; rotate_left; (have k1 := hW; obtain ⟨hc1, hf1⟩ := bcell k1; go_simp; refine comes_v ?_; exact k1))
      (try simp only [Act.put, List.setIfInBounds_toArray, List.set_cons_zero, List.set_cons_succ])
      first | refine wpB_skip 16 rfl (by kernel_rfl) (by kernel_rfl) (by kernel_rfl) (by rfl) ?_ | (refine wpB_text 16 (v := ?_) rfl (by kernel_rfl) (by kernel_rfl) (by kernel_rfl) (by rfl) (fun W hW => ?_) ?_; rotate_left; (have k1 := hW; obtain ⟨hc1, hf1⟩ := bcell k1; go_simp; refine comes_v ?_; exact k1))
      (try simp only [Act.put, List.setIfInBounds_toArray, List.set_cons_zero, List.set_cons_succ])
      first | refine wpB_skip 17 rfl (by kernel_rfl) (by kernel_rfl) (by kernel_rfl) (by rfl) ?_ | (refine wpB_text 17 (v := ?_) rfl (by kernel_rfl) (by kernel_rfl) (by kernel_rfl) (by rfl) (fun W hW => ?_) ?_; rotate_left; (have k1 := hW; obtain ⟨hc1, hf1⟩ := bcell k1; go_simp; refine comes_v ?_; exact k1))
      (try simp only [Act.put, List.setIfInBounds_toArray, List.set_cons_zero, List.set_cons_succ])
      first | refine wpB_skip 18 rfl (by kernel_rfl) (by kernel_rfl) (by kernel_rfl) (by rfl) ?_ | (refine wpB_text 18 (v := ?_) rfl (by kernel_rfl) (by kernel_rfl) (by kernel_rfl) (by rfl) (fun W hW => ?_) ?_; rotate_left; (have k1 := hW; obtain ⟨hc1, hf1⟩ := bcell k1; go_simp; refine comes_v ?_; exact k1))
      (try simp only [Act.put, List.setIfInBounds_toArray, List.set_cons_zero, List.set_cons_succ])
      first | refine wpB_skip 19 rfl (by kernel_rfl) (by kernel_rfl) (by kernel_rfl) (by rfl) ?_ | (refine wpB_text 19 (v := ?_) rfl (by kernel_rfl) (by kernel_rfl) (by kernel_rfl) (by rfl) (fun W hW => ?_) ?_; rotate_left; (have k1 := hW; obtain ⟨hc1, hf1⟩ := bcell k1; go_simp; refine comes_v ?_; exact k1))
      (try simp only [Act.put, List.setIfInBounds_toArray, List.set_cons_zero, List.set_cons_succ])
      first | refine wpB_skip 20 rfl (by kernel_rfl) (by kernel_rfl) (by kernel_rfl) (by rfl) ?_ | (refine wpB_text 20 (v := ?_) rfl (by kernel_rfl) (by kernel_rfl) (by kernel_rfl) (by rfl) (fun W hW => ?_) ?_; rotate_left; (have k1 := hW; obtain ⟨hc1, hf1⟩ := bcell k1; go_simp; refine comes_v ?_; exact k1))
      (try simp only [Act.put, List.setIfInBounds_toArray, List.set_cons_zero, List.set_cons_succ])
      first | refine wpB_skip 21 rfl (by kernel_rfl) (by kernel_rfl) (by kernel_rfl) (by rfl) ?_ | (refine wpB_text 21 (v := ?_) rfl (by kernel_rfl) (by kernel_rfl) (by kernel_rfl) (by rfl) (fun W hW => ?_) ?_; rotate_left; (have k1 := hW; obtain ⟨hc1, hf1⟩ := bcell k1; go_simp; refine comes_v ?_; exact k1))
      (try simp only [Act.put, List.setIfInBounds_toArray, List.set_cons_zero, List.set_cons_succ])
      first | refine wpB_skip 22 rfl (by kernel_rfl) (by kernel_rfl) (by kernel_rfl) (by rfl) ?_ | (refine wpB_text 22 (v := ?_) rfl (by kernel_rfl) (by kernel_rfl) (by kernel_rfl) (by rfl) (fun W hW => ?_) ?_; rotate_left; (have k1 := hW; obtain ⟨hc1, hf1⟩ := bcell k1; go_simp; refine comes_v ?_; exact k1))
      (try simp only [Act.put, List.setIfInBounds_toArray, List.set_cons_zero, List.set_cons_succ])
      first | refine wpB_skip 23 rfl (by kernel_rfl) (by kernel_rfl) (by kernel_rfl) (by rfl) ?_ | (refine wpB_text 23 (v := ?_) rfl (by kernel_rfl) (by kernel_rfl) (by kernel_rfl) (by rfl) (fun W hW => ?_) ?_; rotate_left; (have k1 := hW; obtain ⟨hc1, hf1⟩ := bcell k1; go_simp; refine comes_v ?_; exact k1))
      (try simp only [Act.put, List.setIfInBounds_toArray, List.set_cons_zero, List.set_cons_succ])
      first | refine wpB_skip 24 rfl (by kernel_rfl) (by kernel_rfl) (by kernel_rfl) (by rfl) ?_ | (refine wpB_text 24 (v := ?_) rfl (by kernel_rfl) (by kernel_rfl) (by kernel_rfl) (by rfl) (fun W hW => ?_) ?_; rotate_left; (have k1 := hW; obtain ⟨hc1, hf1⟩ := bcell k1; go_simp; refine comes_v ?_; exact k1))
      (try simp only [Act.put, List.setIfInBounds_toArray, List.set_cons_zero, List.set_cons_succ])
      first | refine wpB_skip 25 rfl (by kernel_rfl) (by kernel_rfl) (by kernel_rfl) (by rfl) ?_ | (refine wpB_text 25 (v := ?_) rfl (by kernel_rfl) (by kernel_rfl) (by kernel_rfl) (by rfl) (fun W hW => ?_) ?_; rotate_left; (have k1 := hW; obtain ⟨hc1, hf1⟩ := bcell k1; go_simp; refine comes_v ?_; exact k1))
      (try simp only [Act.put, List.setIfInBounds_toArray, List.set_cons_zero, List.set_cons_succ])
      first | refine wpB_skip 26 rfl (by kernel_rfl) (by kernel_rfl) (by kernel_rfl) (by rfl) ?_ | (refine wpB_text 26 (v := ?_) rfl (by kernel_rfl) (by kernel_rfl) (by kernel_rfl) (by rfl) (fun W hW => ?_) ?_; rotate_left; (have k1 := hW; obtain ⟨hc1, hf1⟩ := bcell k1; go_simp; refine comes_v ?_; exact k1))
      (try simp only [Act.put, List.setIfInBounds_toArray, List.set_cons_zero, List.set_cons_succ])
      refine wpB_done (by kernel_rfl) ?_ _
      intro W hW; have k1 := hW
      have S5 := Lib.hid (msr_below S4.out zWa0 k1)
      have B5 := S5.out.below
      rw [hX.out]
      clear k1 i0 i1 i2 zi ee1 ee2 ee3 ee4 ee5 S4 B4 x0 x1 x2 x3 x4 x5 zj
      rename World => w5
      obtain ⟨i0, i1, i2⟩ := HN.out w5 B5
      obtain ⟨x0, x1, x2, x3, x4, x5⟩ := H3.out w5 B5
      have zi : b' < w5.heap.size := by have := B5.size; omega
      have zj : b < w5.heap.size := by have := B5.size; omega
      obtain ⟨ee1, ee2, ee3, ee4, ee5⟩ := W3.out
      go_wp2_with fail
      refine wp_region_B (fun W => Below w5.heap.size w5 W) (by kernel_rfl) (by repeat (first | exact Below.refl _ _ | apply Below.drew)) ?_
      first | refine wpB_skip 0 rfl (by kernel_rfl) (by kernel_rfl) (by kernel_rfl) (by rfl) ?_ | (refine wpB_text 0 (v := ?_) rfl (by kernel_rfl) (by kernel_rfl) (by kernel_rfl) (by rfl) (fun W hW => ?_) ?_; rotate_left; (have k1 := hW; obtain ⟨hc1, hf1⟩ := bcell k1; go_simp; refine comes_v ?_; exact k1))
      (try simp only [Act.put, List.setIfInBounds_toArray, List.set_cons_zero, List.set_cons_succ])
      first | refine wpB_skip 1 rfl (by kernel_rfl) (by kernel_rfl) (by kernel_rfl) (by rfl) ?_ | (refine wpB_text 1 (v := ?_) rfl (by kernel_rfl) (by kernel_rfl) (by kernel_rfl) (by rfl) (fun W hW => ?_) ?_; rotate_left; (have k1 := hW; obtain ⟨hc1, hf1⟩ := bcell k1; go_simp; refine comes_v ?_; exact k1))
      (try simp only [Act.put, List.setIfInBounds_toArray, List.set_cons_zero, List.set_cons_succ])
      first | refine wpB_skip 2 rfl (by kernel_rfl) (by kernel_rfl) (by kernel_rfl) (by rfl) ?_ | (refine wpB_text 2 (v := ?_) rfl (by kernel_rfl) (by kernel_rfl) (by kernel_rfl) (by rfl) (fun W hW => ?_) ?_; rotate_left; (have k1 := hW; obtain ⟨hc1, hf1⟩ := bcell k1; go_simp; refine comes_v ?_; exact k1))
      (try simp only [Act.put, List.setIfInBounds_toArray, List.set_cons_zero, List.set_cons_succ])
      first | refine wpB_skip 3 rfl (by kernel_rfl) (by kernel_rfl) (by kernel_rfl) (by rfl) ?_ | (refine wpB_text 3 (v := ?_) rfl (by kernel_rfl) (by kernel_rfl) (by kernel_rfl) (by rfl) (fun W hW => ?_) ?_; rotate_left; (have k1 := hW; obtain ⟨hc1, hf1⟩ := bcell k1; go_simp; refine comes_v ?_; exact k1))
      (try simp only [Act.put, List.setIfInBounds_toArray, List.set_cons_zero, List.set_cons_succ])
      first | refine wpB_skip 4 rfl (by kernel_rfl) (by kernel_rfl) (by kernel_rfl) (by rfl) ?_ | (refine wpB_text 4 (v := ?_) rfl (by kernel_rfl) (by kernel_rfl) (by kernel_rfl) (by rfl) (fun W hW => ?_) ?_; rotate_left; (have k1 := hW; obtain ⟨hc1, hf1⟩ := bcell k1; go_simp; refine comes_v ?_; exact k1))
      (try simp only [Act.put, List.setIfInBounds_toArray, List.set_cons_zero, List.set_cons_succ])
      first | refine wpB_skip 5 rfl (by kernel_rfl) (by kernel_rfl) (by kernel_rfl) (by rfl) ?_ | (refine wpB_text 5 (v := ?_) rfl (by kernel_rfl) (by kernel_rfl) (by kernel_rfl) (by rfl) (fun W hW => ?_) ?_; rotate_left; (have k1 := hW; obtain ⟨hc1, hf1⟩ := bcell k1; go_simp; refine comes_v ?_; exact k1))
      (try simp only [Act.put, List.setIfInBounds_toArray, List.set_cons_zero, List.set_cons_succ])
      first | refine wpB_skip 6 rfl (by kernel_rfl) (by kernel_rfl) (by kernel_rfl) (by rfl) ?_ | (refine wpB_text 6 (v := ?_) rfl (by kernel_rfl) (by kernel_rfl) (by kernel_rfl) (by rfl) (fun W hW => ?_) ?_; rotate_left; (have k1 := hW; obtain ⟨hc1, hf1⟩ := bcell k1; go_simp; refine comes_v ?_; exact k1))
      (try simp only [Act.put, List.setIfInBounds_toArray, List.set_cons_zero, List.set_cons_succ])
      first | refine wpB_skip 7 rfl (by kernel_rfl) (by kernel_rfl) (by kernel_rfl) (by rfl) ?_ | (refine wpB_text 7 (v := ?_) rfl (by kernel_rfl) (by kernel_rfl) (by kernel_rfl) (by rfl) (fun W hW => ?_) ?_; rotate_left; (have k1 := hW; obtain ⟨hc1, hf1⟩ := bcell k1; go_simp; refine comes_v ?_; exact k1))
      (try simp only [Act.put, List.setIfInBounds_toArray, List.set_cons_zero, List.set_cons_succ])
      first | refine wpB_skip 8 rfl (by kernel_rfl) (by kernel_rfl) (by kernel_rfl) (by rfl) ?_ | (refine wpB_text 8 (v := ?_) rfl (by kernel_rfl) (by kernel_rfl) (by kernel_rfl) (by rfl) (fun W hW => ?_) ?_; rotate_left; (have k1 := hW; obtain ⟨hc1, hf1⟩ := bcell k1; go_simp; refine comes_v ?_; exact k1))
      (try simp only [Act.put, List.setIfInBounds_toArray, List.set_cons_zero, List.set_cons_succ])
      first | refine wpB_skip 9 rfl (by kernel_rfl) (by kernel_rfl) (by kernel_rfl) (by rfl) ?_ | (refine wpB_text 9 (v := ?_) rfl (by kernel_rfl) (by kernel_rfl) (by kernel_rfl) (by rfl) (fun W hW => ?_) ?_; rotate_left; (have k1 := hW; obtain ⟨hc1, hf1⟩ := bcell k1; go_simp; refine comes_v ?_; exact k1))
      (try simp only [Act.put, List.setIfInBounds_toArray, List.set_cons_zero, List.set_cons_succ])
      first | refine wpB_skip 10 rfl (by kernel_rfl) (by kernel_rfl) (by kernel_rfl) (by rfl) ?_ | (refine wpB_text 10 (v := ?_) rfl (by kernel_rfl) (by kernel_rfl) (by kernel_rfl) (by rfl) (fun W hW => ?_) ?_; rotate_left; (have k1 := hW; obtain ⟨hc1, hf1⟩ := bcell k1; go_simp; refine comes_v ?_; exact k1))
      (try simp only [Act.put, List.setIfInBounds_toArray, List.set_cons_zero, List.set_cons_succ])
      first | refine wpB_skip 11 rfl (by kernel_rfl) (by kernel_rfl) (by kernel_rfl) (by rfl) ?_ | (refine wpB_text 11 (v := ?_) rfl (by kernel_rfl) (by kernel_rfl) (by kernel_rfl) (by rfl) (fun W hW => ?_) ?_; rotate_left; (have k1 := hW; obtain ⟨hc1, hf1⟩ := bcell k1; go_simp; refine comes_v ?_; exact k1))
      (try simp only [Act.put, List.setIfInBounds_toArray, List.set_cons_zero, List.set_cons_succ])
      first | refine wpB_skip 12 rfl (by kernel_rfl) (by kernel_rfl) (by kernel_rfl) (by rfl) ?_ | (refine wpB_text 12 (v := ?_) rfl (by kernel_rfl) (by kernel_rfl) (by kernel_rfl) (by rfl) (fun W hW => ?_) ?_; rotate_left; (have k1 := hW; obtain ⟨hc1, hf1⟩ := bcell k1; go_simp; refine comes_v ?_; exact k1))
      (try simp only [Act.put, List.setIfInBounds_toArray, List.set_cons_zero, List.set_cons_succ])
      first | refine wpB_skip 13 rfl (by kernel_rfl) (by kernel_rfl) (by kernel_rfl) (by rfl) ?_ | (refine wpB_text 13 (v := ?_) rfl (by kernel_rfl) (by kernel_rfl) (by kernel_rfl) (by rfl) (fun W hW => ?_) ?_; rotate_left; (have k1 := hW; obtain ⟨hc1, hf1⟩ := bcell k1; go_simp; refine comes_v ?_; exact k1))
      (try simp only [Act.put, List.setIfInBounds_toArray, List.set_cons_zero, List.set_cons_succ])
      first | refine wpB_skip 14 rfl (by kernel_rfl) (by kernel_rfl) (by kernel_rfl) (by rfl) ?_ | (refine wpB_text 14 (v := ?_) rfl (by kernel_rfl) (by kernel_rfl) (by kernel_rfl) (by rfl) (fun W hW => ?_) ?_; rotate_left; (have k1 := hW; obtain ⟨hc1, hf1⟩ := bcell k1; go_simp; refine comes_v ?_; exact k1))
      (try simp only [Act.put, List.setIfInBounds_toArray, List.set_cons_zero, List.set_cons_succ])
      first | refine wpB_skip 15 rfl (by kernel_rfl) (by kernel_rfl) (by kernel_rfl) (by rfl) ?_ | (refine wpB_text 15 (v := ?_) rfl (by kernel_rfl) (by kernel_rfl) (by kernel_rfl) (by rfl) (fun W hW => ?_) ?_; rotate_left; (have k1 := hW; obtain ⟨hc1, hf1⟩ := bcell k1; go_simp; refine comes_v ?_; exact k1))
      (try simp only [Act.put, List.setIfInBounds_toArray, List.set_cons_zero, List.set_cons_succ])
      first | refine wpB_skip 16 rfl (by kernel_rfl) (by kernel_rfl) (by kernel_rfl) (by rfl) ?_ | (refine wpB_text 16 (v := ?_) rfl (by kernel_rfl) (by kernel_rfl) (by kernel_rfl) (by rfl) (fun W hW => ?_) ?_; rotate_left; (have k1 := hW; obtain ⟨hc1, hf1⟩ := bcell k1; go_simp; refine comes_v ?_; exact k1))
      (try simp only [Act.put, List.setIfInBounds_toArray, List.set_cons_zero, List.set_cons_succ])
      first | refine wpB_skip 17 rfl (by kernel_rfl) (by kernel_rfl) (by kernel_rfl) (by rfl) ?_ | (refine wpB_text 17 (v := ?_) rfl (by kernel_rfl) (by kernel_rfl) (by kernel_rfl) (by rfl) (fun W hW => ?_) ?_; rotate_left; (have k1 := hW; obtain ⟨hc1, hf1⟩ := bcell k1; go_simp; refine comes_v ?_; exact k1))
      (try simp only [Act.put, List.setIfInBounds_toArray, List.set_cons_zero, List.set_cons_succ])
      first | refine wpB_skip 18 rfl (by kernel_rfl) (by kernel_rfl) (by kernel_rfl) (by rfl) ?_ | (refine wpB_text 18 (v := ?_) rfl (by kernel_rfl) (by kernel_rfl) (by kernel_rfl) (by rfl) (fun W hW => ?_) ?_; rotate_left; (have k1 := hW; obtain ⟨hc1, hf1⟩ := bcell k1; go_simp; refine comes_v ?_; exact k1))
      (try simp only [Act.put, List.setIfInBounds_toArray, List.set_cons_zero, List.set_cons_succ])
      first | refine wpB_skip 19 rfl (by kernel_rfl) (by kernel_rfl) (by kernel_rfl) (by rfl) ?_ | (refine wpB_text 19 (v := ?_) rfl (by kernel_rfl) (by kernel_rfl) (by kernel_rfl) (by rfl) (fun W hW => ?_) ?_; rotate_left; (have k1 := hW; obtain ⟨hc1, hf1⟩ := bcell k1; go_simp; refine comes_v ?_; exact k1))
      (try simp only [Act.put, List.setIfInBounds_toArray, List.set_cons_zero, List.set_cons_succ])
      first | refine wpB_skip 20 rfl (by kernel_rfl) (by kernel_rfl) (by kernel_rfl) (by rfl) ?_ | (refine wpB_text 20 (v := ?_) rfl (by kernel_rfl) (by kernel_rfl) (by kernel_rfl) (by rfl) (fun W hW => ?_) ?_; rotate_left; (have k1 := hW; obtain ⟨hc1, hf1⟩ := bcell k1; go_simp; refine comes_v ?_; exact k1))
      (try simp only [Act.put, List.setIfInBounds_toArray, List.set_cons_zero, List.set_cons_succ])
      first | refine wpB_skip 21 rfl (by kernel_rfl) (by kernel_rfl) (by kernel_rfl) (by rfl) ?_ | (refine wpB_text 21 (v := ?_) rfl (by kernel_rfl) (by kernel_rfl) (by kernel_rfl) (by rfl) (fun W hW => ?_) ?_; rotate_left; (have k1 := hW; obtain ⟨hc1, hf1⟩ := bcell k1; go_simp; refine comes_v ?_; exact k1))
      (try simp only [Act.put, List.setIfInBounds_toArray, List.set_cons_zero, List.set_cons_succ])
      first | refine wpB_skip 22 rfl (by kernel_rfl) (by kernel_rfl) (by kernel_rfl) (by rfl) ?_ | (refine wpB_text 22 (v := ?_) rfl (by kernel_rfl) (by kernel_rfl) (by kernel_rfl) (by rfl) (fun W hW => ?_) ?_; rotate_left; (have k1 := hW; obtain ⟨hc1, hf1⟩ := bcell k1; go_simp; refine comes_v ?_; exact k1))
      (try simp only [Act.put, List.setIfInBounds_toArray, List.set_cons_zero, List.set_cons_succ])
      first | refine wpB_skip 23 rfl (by kernel_rfl) (by kernel_rfl) (by kernel_rfl) (by rfl) ?_ | (refine wpB_text 23 (v := ?_) rfl (by kernel_rfl) (by kernel_rfl) (by kernel_rfl) (by rfl) (fun W hW => ?_) ?_; rotate_left; (have k1 := hW; obtain ⟨hc1, hf1⟩ := bcell k1; go_simp; refine comes_v ?_; exact k1))
      (try simp only [Act.put, List.setIfInBounds_toArray, List.set_cons_zero, List.set_cons_succ])
      first | refine wpB_skip 24 rfl (by kernel_rfl) (by kernel_rfl) (by kernel_rfl) (by rfl) ?_ | (refine wpB_text 24 (v := ?_) rfl (by kernel_rfl) (by kernel_rfl) (by kernel_rfl) (by rfl) (fun W hW => ?_) ?_; rotate_left; (have k1 := hW; obtain ⟨hc1, hf1⟩ := bcell k1; go_simp; refine comes_v ?_; exact k1))
      (try simp only [Act.put, List.setIfInBounds_toArray, List.set_cons_zero, List.set_cons_succ])
      first | refine wpB_skip 25 rfl (by kernel_rfl) (by kernel_rfl) (by kernel_rfl) (by rfl) ?_ | (refine wpB_text 25 (v := ?_) rfl (by kernel_rfl) (by kernel_rfl) (by kernel_rfl) (by rfl) (fun W hW => ?_) ?_; rotate_left; (have k1 := hW; obtain ⟨hc1, hf1⟩ := bcell k1; go_simp; refine comes_v ?_; exact k1))
      (try simp only [Act.put, List.setIfInBounds_toArray, List.set_cons_zero, List.set_cons_succ])
      first | refine wpB_skip 26 rfl (by kernel_rfl) (by kernel_rfl) (by kernel_rfl) (by rfl) ?_ | (refine wpB_text 26 (v := ?_) rfl (by kernel_rfl) (by kernel_rfl) (by kernel_rfl) (by rfl) (fun W hW => ?_) ?_; rotate_left; (have k1 := hW; obtain ⟨hc1, hf1⟩ := bcell k1; go_simp; refine comes_v ?_; exact k1))
      (try simp only [Act.put, List.setIfInBounds_toArray, List.set_cons_zero, List.set_cons_succ])
      refine wpB_done (by kernel_rfl) ?_ _
      intro W hW; have k1 := hW
      have S6 := Lib.hid (msr_below S5.out zWa0 k1)
      have B6 := S6.out.below
      rw [hY.out]
      clear k1 i0 i1 i2 zi ee1 ee2 ee3 ee4 ee5 S5 B5 x0 x1 x2 x3 x4 x5 zj
      rename World => w6
      have t1 := tdiv_le X T
      have t2 := tdiv_le Y T
      have e1 : IntKind.i64.wrap (X.tdiv T) = X.tdiv T := IntWalk.i64_in _ (by omega)
      have e2 : IntKind.i64.wrap (Y.tdiv T) = Y.tdiv T := IntWalk.i64_in _ (by omega)
      by_cases h1 : X.tmod T = 0
      · have h1b : (X.tmod T != 0) = false := by simpa using h1
        by_cases h2 : Y.tmod T = 0
        · have h2b : (Y.tmod T != 0) = false := by simpa using h2
          by_cases hp : isPegB (X.tdiv T) (Y.tdiv T) = true
          · have E1 : Hid (ok = true) := Lib.hid (by rw [E0.out, hp]; simp [hs, h1, h2])
            rw [hp] at KP
            go_upto_region 10 with fail
            go_region
            obtain ⟨Wb, hWb⟩ : ∃ Wb, Wb = (w6.alloc (.cells #[.int .i64 (X.tdiv T), .int .i64 (Y.tdiv T)] 46)) := ⟨_, rfl⟩
            rw [← hWb]
            have yWb0_0 : Wb.cell? ⟨w6.heap.size, 0, none⟩ = some (.int .i64 (X.tdiv T)) := by rw [hWb]; go_simp
            have yWb0_1 : Wb.cell? ⟨w6.heap.size, 1, none⟩ = some (.int .i64 (Y.tdiv T)) := by rw [hWb]; go_simp
            have fWb0 : ∀ o, Wb.frozen? ⟨w6.heap.size, o, none⟩ = false := by intro o; rw [hWb]; (repeat rw [frozen?_alloc_cells]); simp [World.frozen?]
            have zWb0 : w6.heap.size < Wb.heap.size := by rw [hWb]; simp <;> omega
            have BWb : Below w6.heap.size w6 Wb := by rw [hWb]; exact (Below.alloc (Below.refl _ _) (by simp <;> omega) _)
            have eWb : Hid (Wb.heap.size = w6.heap.size + 1) := Lib.hid (by rw [hWb]; simp)
            clear hWb
            have S7 := Lib.hid (msr_below S6.out zWa0 BWb.drew)
            clear S6 e1 e2 t1 t2
            go_wp2_with fail
            refine (KP.out _).mono ?_; rintro e w7 ⟨rfl, hb7⟩
            have S8 := Lib.hid (msr_below S7.out zWa0 hb7)
            have v0 := ((bcell hb7).1 _ _ zWb0).trans yWb0_0
            have v1 := ((bcell hb7).1 _ _ zWb0).trans yWb0_1
            have zv : w6.heap.size < w7.heap.size := Nat.lt_of_lt_of_le zWb0 hb7.size
            clear hb7 S7 yWb0_0 yWb0_1 zWb0 fWb0 eWb BWb KP
            have OKT : Hid (ok = true) := Lib.hid (by rw [E1.out])
            have q0 := S8.out.c0
            have q1 := S8.out.c1
            have f0 := S8.out.f 0
            have f1 := S8.out.f 1
            have zs : w.heap.size < w7.heap.size := by have := S8.out.size; omega
            have BE := S8.out.below
            clear S8
            go_wp2_with fail
            refine bodyPost_ret (v := .tuple #[.agg #[.int .i64 (X.tdiv T), .int .i64 (Y.tdiv T)], .bool true]) (by simp [results, Try.results47, go_sem, q0, q1, zs]) rfl ⟨by rw [OKT.out, isel_t, isel_t], ?_⟩
            repeat (first | with_reducible assumption | with_reducible exact Below.refl _ _ | with_reducible apply Below.drew | ((with_reducible refine Below.setCell ?_ ?_ _); rotate_left; (first | exact Nat.le_refl _ | omega | (simp <;> omega))) | ((with_reducible refine Below.alloc ?_ ?_ _); rotate_left; (first | omega | (simp <;> omega))))
          · have hpf : isPegB (X.tdiv T) (Y.tdiv T) = false := by simpa using hp
            have E1 : Hid (ok = false) := Lib.hid (by rw [E0.out, hpf]; simp)
            rw [hpf] at KP
            go_upto_region 10 with fail
            go_region
            obtain ⟨Wb, hWb⟩ : ∃ Wb, Wb = (w6.alloc (.cells #[.int .i64 (X.tdiv T), .int .i64 (Y.tdiv T)] 46)) := ⟨_, rfl⟩
            rw [← hWb]
            have yWb0_0 : Wb.cell? ⟨w6.heap.size, 0, none⟩ = some (.int .i64 (X.tdiv T)) := by rw [hWb]; go_simp
            have yWb0_1 : Wb.cell? ⟨w6.heap.size, 1, none⟩ = some (.int .i64 (Y.tdiv T)) := by rw [hWb]; go_simp
            have fWb0 : ∀ o, Wb.frozen? ⟨w6.heap.size, o, none⟩ = false := by intro o; rw [hWb]; (repeat rw [frozen?_alloc_cells]); simp [World.frozen?]
            have zWb0 : w6.heap.size < Wb.heap.size := by rw [hWb]; simp <;> omega
            have BWb : Below w6.heap.size w6 Wb := by rw [hWb]; exact (Below.alloc (Below.refl _ _) (by simp <;> omega) _)
            have eWb : Hid (Wb.heap.size = w6.heap.size + 1) := Lib.hid (by rw [hWb]; simp)
            clear hWb
            have S7 := Lib.hid (msr_below S6.out zWa0 BWb.drew)
            clear S6 e1 e2 t1 t2
            go_wp2_with fail
            refine (KP.out _).mono ?_; rintro e w7 ⟨rfl, hb7⟩
            have S8 := Lib.hid (msr_below S7.out zWa0 hb7)
            have v0 := ((bcell hb7).1 _ _ zWb0).trans yWb0_0
            have v1 := ((bcell hb7).1 _ _ zWb0).trans yWb0_1
            have zv : w6.heap.size < w7.heap.size := Nat.lt_of_lt_of_le zWb0 hb7.size
            clear hb7 S7 yWb0_0 yWb0_1 zWb0 fWb0 eWb BWb KP
            have OKF : Hid (ok = false) := Lib.hid (by rw [E1.out])
            have q0 := S8.out.c0
            have q1 := S8.out.c1
            have f0 := S8.out.f 0
            have f1 := S8.out.f 1
            have zs : w.heap.size < w7.heap.size := by have := S8.out.size; omega
            have BE := S8.out.below
            clear S8
            go_wp2_with fail
            refine bodyPost_ret (v := .tuple #[.agg #[.int .i64 0, .int .i64 0], .bool false]) (by simp [results, Try.results47, go_sem, q0, q1, zs]) rfl ⟨by rw [OKF.out, isel_f, isel_f], ?_⟩
            repeat (first | with_reducible assumption | with_reducible exact Below.refl _ _ | with_reducible apply Below.drew | ((with_reducible refine Below.setCell ?_ ?_ _); rotate_left; (first | exact Nat.le_refl _ | omega | (simp <;> omega))) | ((with_reducible refine Below.alloc ?_ ?_ _); rotate_left; (first | omega | (simp <;> omega))))
        · have h2b : (Y.tmod T != 0) = true := by simpa using h2
          have OKF : Hid (ok = false) := Lib.hid (by rw [E0.out]; simp [h2])
          have q0 := S6.out.c0
          have q1 := S6.out.c1
          have f0 := S6.out.f 0
          have f1 := S6.out.f 1
          have zs : w.heap.size < w6.heap.size := by have := S6.out.size; omega
          have BE := S6.out.below
          clear S6
          go_wp2_with fail
          refine bodyPost_ret (v := .tuple #[.agg #[.int .i64 0, .int .i64 0], .bool false]) (by simp [results, Try.results47, go_sem, q0, q1, zs]) rfl ⟨by rw [OKF.out, isel_f, isel_f], ?_⟩
          repeat (first | with_reducible assumption | with_reducible exact Below.refl _ _ | with_reducible apply Below.drew | ((with_reducible refine Below.setCell ?_ ?_ _); rotate_left; (first | exact Nat.le_refl _ | omega | (simp <;> omega))) | ((with_reducible refine Below.alloc ?_ ?_ _); rotate_left; (first | omega | (simp <;> omega))))
      · have h1b : (X.tmod T != 0) = true := by simpa using h1
        have OKF : Hid (ok = false) := Lib.hid (by rw [E0.out]; simp [h1])
        have q0 := S6.out.c0
        have q1 := S6.out.c1
        have f0 := S6.out.f 0
        have f1 := S6.out.f 1
        have zs : w.heap.size < w6.heap.size := by have := S6.out.size; omega
        have BE := S6.out.below
        clear S6
        go_wp2_with fail
        refine bodyPost_ret (v := .tuple #[.agg #[.int .i64 0, .int .i64 0], .bool false]) (by simp [results, Try.results47, go_sem, q0, q1, zs]) rfl ⟨by rw [OKF.out, isel_f, isel_f], ?_⟩
        repeat (first | with_reducible assumption | with_reducible exact Below.refl _ _ | with_reducible apply Below.drew | ((with_reducible refine Below.setCell ?_ ?_ _); rotate_left; (first | exact Nat.le_refl _ | omega | (simp <;> omega))) | ((with_reducible refine Below.alloc ?_ ?_ _); rotate_left; (first | omega | (simp <;> omega))))
    · have hsb : (x + y + z != T) = true := by simpa using hs
      have OKF : Hid (ok = false) := Lib.hid (by rw [E0.out]; simp [hs])
      have q0 := S4.out.c0
      have q1 := S4.out.c1
      have f0 := S4.out.f 0
      have f1 := S4.out.f 1
      have zs : w.heap.size < w4.heap.size := by have := S4.out.size; omega
      have BE := S4.out.below
      clear S4
      go_wp2_with fail
      refine bodyPost_ret (v := .tuple #[.agg #[.int .i64 0, .int .i64 0], .bool false]) (by simp [results, Try.results47, go_sem, q0, q1, zs]) rfl ⟨by rw [OKF.out, isel_f, isel_f], ?_⟩
      repeat (first | with_reducible assumption | with_reducible exact Below.refl _ _ | with_reducible apply Below.drew | ((with_reducible refine Below.setCell ?_ ?_ _); rotate_left; (first | exact Nat.le_refl _ | omega | (simp <;> omega))) | ((with_reducible refine Below.alloc ?_ ?_ _); rotate_left; (first | omega | (simp <;> omega))))
  · have hnf : (numB x && (numB y && numB z)) = false := by simpa using hn
    have E0 : Hid (pqB x y z T X Y = false) := Lib.hid (by unfold pqB; rw [hnf, Bool.false_and])
    rw [hnf] at KA
    generalize pqB x y z T X Y = ok at *
    clear hn hnf
    go_enter Try.func47, Try.ntmps47
    go_wp2_with fail
    obtain ⟨Wa, hWa⟩ : ∃ Wa, Wa = (w.alloc (.cells #[.int .i64 0, .int .i64 0] 46)) := ⟨_, rfl⟩
    rw [← hWa]
    have yWa0_0 : Wa.cell? ⟨w.heap.size, 0, none⟩ = some (.int .i64 0) := by rw [hWa]; go_simp
    have yWa0_1 : Wa.cell? ⟨w.heap.size, 1, none⟩ = some (.int .i64 0) := by rw [hWa]; go_simp
    have fWa0 : ∀ o, Wa.frozen? ⟨w.heap.size, o, none⟩ = false := by intro o; rw [hWa]; (repeat rw [frozen?_alloc_cells]); simp [World.frozen?]
    have zWa0 : w.heap.size < Wa.heap.size := by rw [hWa]; simp <;> omega
    have BWa : Below w.heap.size w Wa := by rw [hWa]; exact (Below.alloc (Below.refl _ _) (by simp <;> omega) _)
    have eWa : Hid (Wa.heap.size = w.heap.size + 1) := Lib.hid (by rw [hWa]; simp)
    clear hWa
    have S0 := Lib.hid (show MsR w Wa Wa w.heap.size (0, 0) from ⟨BWa, Nat.le_refl _, fun b o _ _ => ⟨rfl, rfl⟩, yWa0_0, yWa0_1, fWa0⟩)
    refine (K.out _ BWa).mono ?_; rintro e w1 ⟨rfl, hb1⟩
    have S1 := Lib.hid (msr_below S0.out zWa0 hb1)
    have B1 := S1.out.below
    clear yWa0_0 yWa0_1 fWa0 eWa BWa hb1 S0 K
    go_wp2_with fail
    refine (KA.out _ B1).mono ?_; rintro e w2 ⟨rfl, hb2⟩
    have S2 := Lib.hid (msr_below S1.out zWa0 hb2)
    clear hb2 S1 B1 KA
    have OKF : Hid (ok = false) := Lib.hid (by rw [E0.out])
    have q0 := S2.out.c0
    have q1 := S2.out.c1
    have f0 := S2.out.f 0
    have f1 := S2.out.f 1
    have zs : w.heap.size < w2.heap.size := by have := S2.out.size; omega
    have BE := S2.out.below
    clear S2
    go_wp2_with fail
    refine bodyPost_ret (v := .tuple #[.agg #[.int .i64 0, .int .i64 0], .bool false]) (by simp [results, Try.results47, go_sem, q0, q1, zs]) rfl ⟨by rw [OKF.out, isel_f, isel_f], ?_⟩
    repeat (first | with_reducible assumption | with_reducible exact Below.refl _ _ | with_reducible apply Below.drew | ((with_reducible refine Below.setCell ?_ ?_ _); rotate_left; (first | exact Nat.le_refl _ | omega | (simp <;> omega))) | ((with_reducible refine Below.alloc ?_ ?_ _); rotate_left; (first | omega | (simp <;> omega))))
end Go.Proofs.Ytgjegildeejghaa
/- contract: PegOfParts, the model -/
namespace Go.Proofs.Ytgjegildeejghaa
open Go.ChangeShapes Go.WideShapes Go.ChangeAt Go.RowKit Go.Joins
set_option linter.unusedVariables false
set_option linter.unusedSimpArgs false
set_option maxRecDepth 4000
def ptX (l : List (Int × Int)) (f : Nat → Int) : Int := f 0 * (vx l 0).1 + f 1 * (vx l 1).1 + f 2 * (vx l 2).1
def ptY (l : List (Int × Int)) (f : Nat → Int) : Int := f 0 * (vx l 0).2 + f 1 * (vx l 1).2 + f 2 * (vx l 2).2
noncomputable def ptB (l : List (Int × Int)) (n : Nat) (f : Nat → Int) : Bool := tB l && (decide (n = 3) && pqB (f 0) (f 1) (f 2) (areaN l) (ptX l f) (ptY l f))
set_option maxHeartbeats 1000000 in
theorem specPegOfParts_any (A : Option Addr) (c : Nat) (l : List (Int × Int)) (A' : Option Addr) (c' n : Nat) (f : Nat → Int) (w : World) (hn : l.length ≤ 1048576) (hn' : n ≤ 1048576) (hcap : l.length ≤ c) (hc2 : c ≤ 9223372036854775807) (hR : Rd w w.heap.size A l) (hR' : RdI w w.heap.size A' n f) :
    Calls Try.prog 47 #[.slice A l.length c, .slice A' n c'] w fun e w' => e = .returned (.tuple #[.agg #[.int .i64 (isel (ptB l n f) ((ptX l f).tdiv (areaN l))), .int .i64 (isel (ptB l n f) ((ptY l f).tdiv (areaN l)))], .bool (ptB l n f)]) ∧ Below w.heap.size w w' := by
  have K := Lib.hid (fun W (hb : Below w.heap.size w W) => trThree_any A c l W hn hcap hc2 (rd_more (rd_below hR hb (Nat.le_refl _)) hb.size))
  by_cases ht : tB l = true
  · by_cases h3 : n = 3
    · subst h3
      obtain ⟨a1, a2, b1, b2, c1, c2, htr⟩ := tB_true ht
      have E : ptB l 3 f = pqB (f 0) (f 1) (f 2) (areaN l) (ptX l f) (ptY l f) := by unfold ptB; rw [ht]; simp
      rw [E]
      have KR := Lib.hid (fun W (hb : Below w.heap.size w W) => pgArea_any A c l W htr.2.few.1 htr.2.few.2 htr.2.pegs (rd_more (rd_below hR hb (Nat.le_refl _)) hb.size))
      have htn := tri_turn htr
      have hbd := Lib.hid (tri_bd htr)
      have hT := twI_bd (tri_sz htr).1 (tri_sz htr).2.1 (tri_sz htr).2.2
      have eX : Hid (f 0 * a1 + f 1 * b1 + f 2 * c1 = ptX l f) := Lib.hid (by rw [htr.1]; rfl)
      have eY : Hid (f 0 * a2 + f 1 * b2 + f 2 * c2 = ptY l f) := Lib.hid (by rw [htr.1]; rfl)
      rw [ht] at K
      rw [← tri_area htr] at htn hT
      generalize ptX l f = X at *
      generalize ptY l f = Y at *
      generalize areaN l = T at *
      obtain ⟨rfl, hg⟩ := htr
      obtain ⟨b, off, rfl, hb, H3⟩ := rd3_of hR
      obtain ⟨b', off', rfl, hb', HN⟩ := ri3_of hR'
      exact specParts_walk b off c b' off' c' a1 a2 b1 b2 c1 c2 (f 0) (f 1) (f 2) T X Y w hc2 hb hb' hbd htn hT.1 hT.2 eX eY K KR
        (Lib.hid (fun W hW => l1All3_any b' off' c' (f 0) (f 1) (f 2) W (by have := hW.size; omega) (Lib.hid (fun W' hW' => HN.out W' (hW.trans (hW'.mono hW.size)))))) H3 HN
    · have E : Hid (ptB l n f = false) := Lib.hid (by unfold ptB; simp [h3])
      rw [ht] at K
      generalize ptB l n f = ok at *
      have hni : ¬ (n : Int) = 3 := by omega
      have hnb : ((n : Int) != 3) = true := by simpa using hni
      clear ht hR hR' h3
      go_enter Try.func47, Try.ntmps47
      go_wp2_with fail
      obtain ⟨Wa, hWa⟩ : ∃ Wa, Wa = (w.alloc (.cells #[.int .i64 0, .int .i64 0] 46)) := ⟨_, rfl⟩
      rw [← hWa]
      have yWa0_0 : Wa.cell? ⟨w.heap.size, 0, none⟩ = some (.int .i64 0) := by rw [hWa]; go_simp
      have yWa0_1 : Wa.cell? ⟨w.heap.size, 1, none⟩ = some (.int .i64 0) := by rw [hWa]; go_simp
      have fWa0 : ∀ o, Wa.frozen? ⟨w.heap.size, o, none⟩ = false := by intro o; rw [hWa]; (repeat rw [frozen?_alloc_cells]); simp [World.frozen?]
      have zWa0 : w.heap.size < Wa.heap.size := by rw [hWa]; simp <;> omega
      have BWa : Below w.heap.size w Wa := by rw [hWa]; exact (Below.alloc (Below.refl _ _) (by simp <;> omega) _)
      have eWa : Hid (Wa.heap.size = w.heap.size + 1) := Lib.hid (by rw [hWa]; simp)
      clear hWa
      refine (K.out _ BWa).mono ?_; rintro e w1 ⟨rfl, hb1⟩
      have q0 := ((bcell hb1).1 _ _ zWa0).trans yWa0_0
      have q1 := ((bcell hb1).1 _ _ zWa0).trans yWa0_1
      have f0 := ((bcell hb1).2 _ 0 zWa0).trans (fWa0 0)
      have f1 := ((bcell hb1).2 _ 1 zWa0).trans (fWa0 1)
      have zs : w.heap.size < w1.heap.size := Nat.lt_of_lt_of_le zWa0 hb1.size
      have BE := BWa.trans (hb1.mono BWa.size)
      clear hb1 BWa yWa0_0 yWa0_1 fWa0 zWa0 eWa K
      go_wp2_with fail
      refine bodyPost_ret (v := .tuple #[.agg #[.int .i64 0, .int .i64 0], .bool false]) (by simp [results, Try.results47, go_sem, q0, q1, zs]) rfl ⟨by rw [E.out, isel_f, isel_f], ?_⟩
      repeat (first | with_reducible assumption | with_reducible exact Below.refl _ _ | with_reducible apply Below.drew | ((with_reducible refine Below.setCell ?_ ?_ _); rotate_left; (first | exact Nat.le_refl _ | omega | (simp <;> omega))) | ((with_reducible refine Below.alloc ?_ ?_ _); rotate_left; (first | omega | (simp <;> omega))))
  · have htf : tB l = false := by simpa using ht
    have E : Hid (ptB l n f = false) := Lib.hid (by unfold ptB; rw [htf]; rfl)
    rw [htf] at K
    generalize ptB l n f = ok at *
    clear ht htf hR hR'
    go_enter Try.func47, Try.ntmps47
    go_wp2_with fail
    obtain ⟨Wa, hWa⟩ : ∃ Wa, Wa = (w.alloc (.cells #[.int .i64 0, .int .i64 0] 46)) := ⟨_, rfl⟩
    rw [← hWa]
    have yWa0_0 : Wa.cell? ⟨w.heap.size, 0, none⟩ = some (.int .i64 0) := by rw [hWa]; go_simp
    have yWa0_1 : Wa.cell? ⟨w.heap.size, 1, none⟩ = some (.int .i64 0) := by rw [hWa]; go_simp
    have fWa0 : ∀ o, Wa.frozen? ⟨w.heap.size, o, none⟩ = false := by intro o; rw [hWa]; (repeat rw [frozen?_alloc_cells]); simp [World.frozen?]
    have zWa0 : w.heap.size < Wa.heap.size := by rw [hWa]; simp <;> omega
    have BWa : Below w.heap.size w Wa := by rw [hWa]; exact (Below.alloc (Below.refl _ _) (by simp <;> omega) _)
    have eWa : Hid (Wa.heap.size = w.heap.size + 1) := Lib.hid (by rw [hWa]; simp)
    clear hWa
    refine (K.out _ BWa).mono ?_; rintro e w1 ⟨rfl, hb1⟩
    have q0 := ((bcell hb1).1 _ _ zWa0).trans yWa0_0
    have q1 := ((bcell hb1).1 _ _ zWa0).trans yWa0_1
    have f0 := ((bcell hb1).2 _ 0 zWa0).trans (fWa0 0)
    have f1 := ((bcell hb1).2 _ 1 zWa0).trans (fWa0 1)
    have zs : w.heap.size < w1.heap.size := Nat.lt_of_lt_of_le zWa0 hb1.size
    have BE := BWa.trans (hb1.mono BWa.size)
    clear hb1 BWa yWa0_0 yWa0_1 fWa0 zWa0 eWa K
    go_wp2_with fail
    refine bodyPost_ret (v := .tuple #[.agg #[.int .i64 0, .int .i64 0], .bool false]) (by simp [results, Try.results47, go_sem, q0, q1, zs]) rfl ⟨by rw [E.out, isel_f, isel_f], ?_⟩
    repeat (first | with_reducible assumption | with_reducible exact Below.refl _ _ | with_reducible apply Below.drew | ((with_reducible refine Below.setCell ?_ ?_ _); rotate_left; (first | exact Nat.le_refl _ | omega | (simp <;> omega))) | ((with_reducible refine Below.alloc ?_ ?_ _); rotate_left; (first | omega | (simp <;> omega))))
end Go.Proofs.Ytgjegildeejghaa
/- A statement that leaves its order open and in which one operation writes what no other one reads: one walk through it, in the order of the text. -/
namespace Go.Proofs.Ytgjegildeejghaa
open Go.ChangeShapes Go.WideShapes Go.ChangeAt Go.RowKit Go.Joins
set_option linter.unusedVariables false
set_option linter.unusedSimpArgs false
set_option maxRecDepth 4000
section
variable {P : Program} {ops : Array Oper} {Q : Exit → Act → World → Prop} {md : Region.Mode} {S : Array Bool → World → Prop}
def SteadyL (P : Program) (ops : Array Oper) (S : Array Bool → World → Prop) (i : Nat) (o : Oper) (v : Value) (a : Act) : Prop :=
  (Region.wanted o (yielded ops a.tmps) = true ∧ ∀ L w, L.getD i true = false → S L w → Comes P (S (L.setIfInBounds i true)) v ((execOp a.eval o).run P w)) ∨
  (Region.wanted o (yielded ops a.tmps) = false ∧ v = undef ∧ ∀ L w, S L w → S (L.setIfInBounds i true) w)
theorem steadyL_same {i : Nat} {o : Oper} {v : Value} {a a' : Act} (hy : SteadyL P ops S i o v a) (he : execOp a'.eval o = execOp a.eval o)
    (hw : Region.wanted o (yielded ops a'.tmps) = Region.wanted o (yielded ops a.tmps)) : SteadyL P ops S i o v a' := by
  unfold SteadyL at *; rw [he, hw]; exact hy
theorem steadyL_op {i : Nat} {o : Oper} {v : Value} {a : Act} (hi : ops[i]? = some o) (hy : SteadyL P ops S i o v a) {K : Act → World → Prop} {w : World} {L : Array Bool} (hl : L.getD i true = false) (hS : S L w)
    (h : ∀ w', S (L.setIfInBounds i true) w' → K (a.put o.dst v) w') : wpOp P ops Q i K a w := by
  unfold wpOp
  simp only [hi]
  rcases hy with ⟨hw, hv⟩ | ⟨hw, rfl, hk⟩
  · simp only [hw, if_true]
    left
    have hc := hv L w hl hS
    unfold Oper.wp
    generalize (execOp a.eval o).run P w = r at *
    cases r with
    | ok n w' =>
      cases n with
      | value u => obtain ⟨rfl, h'⟩ := hc; exact h _ h'
      | skip => obtain ⟨rfl, h'⟩ := hc; exact h _ h'
      | enter f args => exact Calls.mono hc fun e w'' he => by obtain ⟨rfl, hs⟩ := he; exact h _ hs
      | _ => exact hc.elim
    | halt x w' => exact hc.elim
  · simp only [hw, Bool.false_eq_true, if_false]
    exact h _ (hk L w hS)
def wpL (P : Program) (md : Region.Mode) (ops : Array Oper) (Q : Exit → Act → World → Prop) (S : Array Bool → World → Prop) : Nat → Array Bool → Act → Prop
  | 0, listed, a => Region.ready md ops listed = [] ∧ ∀ w, S listed w → Q .normal a w
  | fuel + 1, listed, a => (Region.ready md ops listed = [] → ∀ w, S listed w → Q .normal a w) ∧
    ∀ i ∈ Region.ready md ops listed, ∃ oi v, ops[i]? = some oi ∧ SteadyL P ops S i oi v a ∧ wpL P md ops Q S fuel (listed.setIfInBounds i true) (a.put oi.dst v)
theorem wpAny_of_L : ∀ (fuel : Nat) (listed : Array Bool) (a : Act), wpL P md ops Q S fuel listed a → ∀ w, S listed w → wpAny P md ops Q fuel listed a w
  | 0, _, _, h, w, hS => ⟨h.1, h.2 w hS⟩
  | fuel + 1, _, _, h, w, hS => ⟨fun hr => h.1 hr w hS, fun i hi => by
      obtain ⟨oi, v, ho, hy, hn⟩ := h.2 i hi
      exact steadyL_op ho hy (mem_ready.1 hi).1 hS fun w' hS' => wpAny_of_L fuel _ _ hn w' hS'⟩
theorem wpL_first {i : Nat} {oi : Oper} {v : Value} (hi : ops[i]? = some oi) (hsel : ∀ (j : Nat) (o : Oper) cs b, ops[j]? = some o → o.op ≠ .select cs b) :
    ∀ (fuel : Nat) (listed : Array Bool) (a : Act),
      (∀ j oj, ops[j]? = some oj → j ≠ i → listed.getD j true = false → (∀ e ∈ oj.after, Region.binds md e = true → e.on ≠ i) → oi.apart ops oj = true) →
      i ∈ Region.ready md ops listed → SteadyL P ops S i oi v a →
      wpL P md ops Q S fuel (listed.setIfInBounds i true) (a.put oi.dst v) → wpL P md ops Q S (fuel + 1) listed a := by
  intro fuel
  induction fuel with
  | zero =>
    intro listed a _ hr hy H
    refine ⟨fun h => (by rw [h] at hr; cases hr), fun j hj => ?_⟩
    by_cases hji : j = i
    · subst hji; exact ⟨oi, v, hi, hy, H⟩
    · have hm := ready_mono hj hji
      rw [H.1] at hm
      cases hm
  | succ fuel ih =>
    intro listed a hfree hr hy H
    refine ⟨fun h => (by rw [h] at hr; cases hr), fun j hj => ?_⟩
    by_cases hji : j = i
    · subst hji; exact ⟨oi, v, hi, hy, H⟩
    · obtain ⟨oj, u, hoj, hsj, Hj⟩ := H.2 j (ready_mono hj hji)
      obtain ⟨hjun, oj', hoj', hall⟩ := mem_ready.1 hj
      obtain rfl : oj' = oj := Option.some.inj (hoj'.symm.trans hoj)
      have hnot : ∀ e ∈ oj'.after, Region.binds md e = true → e.on ≠ i := fun e he hb heq => by
        have h1 := hall e he hb
        have h0 := (mem_ready.1 hr).1
        rw [heq] at h1
        have : listed.getD i true = listed.getD i false := by
          rcases Nat.lt_or_ge i listed.size with h' | h'
          · simp [h']
          · simp [Array.getElem?_eq_none h'] at h1
        rw [this, h1] at h0
        cases h0
      obtain ⟨h1, h2, h3⟩ := Oper.apart_spec (hfree j oj' hoj hji hjun hnot)
      have k1 : SteadyL P ops S j oj' u a := steadyL_same hsj (execOp_put oj' (fun cs b => hsel j oj' cs b hoj) a oi.dst v h1).symm (wanted_put oj' a oi.dst v h1).symm
      have k2 : SteadyL P ops S i oi v (a.put oj'.dst u) := steadyL_same hy (execOp_put oi (fun cs b => hsel i oi cs b hi) a oj'.dst u h3) (wanted_put oi a oj'.dst u h3)
      refine ⟨oj', u, hoj, k1, ih _ _ (fun k ok hk hki hun hno => ?_) (ready_mono hr (Ne.symm hji)) k2 ?_⟩
      · refine hfree k ok hk hki ?_ hno
        by_cases hjk : j = k
        · subst hjk; exact hjun
        · rw [getD_set_ne true hjk] at hun; exact hun
      · rw [Array.setIfInBounds_comm _ _ hji, ← Act.put_comm a v u h2]
        exact Hj
/-- operation number z turns W1 into W2, as far as block n -/
def Flag (z n : Nat) (W1 W2 : World) (L : Array Bool) (W : World) : Prop := Below n (if L.getD z false = true then W2 else W1) W
theorem wpZ_take {z n i : Nat} {W1 W2 : World} {oi : Oper} {v : Value} {fuel : Nat} {listed : Array Bool} {a : Act} (hi : ops[i]? = some oi) (hs : Region.noSelect ops = true)
    (hf : Region.free md ops listed i = true) (hr : (Region.ready md ops listed).contains i = true) (hy : SteadyL P ops (Flag z n W1 W2) i oi v a)
    (h : wpL P md ops Q (Flag z n W1 W2) fuel (listed.setIfInBounds i true) (a.put oi.dst v)) : wpL P md ops Q (Flag z n W1 W2) (fuel + 1) listed a :=
  wpL_first hi (Region.noSelect_spec hs) fuel listed a (Region.free_spec hi hf) (by simpa using hr) hy h
/-- number i, as it stands in the text; it is not number z -/
theorem wpZ_text {z n : Nat} {W1 W2 : World} (i : Nat) {oi : Oper} {rest : List Oper} {v : Value} {fuel : Nat} {listed : Array Bool} {a : Act} (hi : ops.toList.drop i = oi :: rest) (hs : Region.noSelect ops = true)
    (hf : Region.free md ops listed i = true) (hr : (Region.ready md ops listed).contains i = true) (hw : Region.wanted oi (yielded ops a.tmps) = true) (hz : i ≠ z)
    (h1 : ∀ X, (X = W1 ∨ X = W2) → ∀ w, Below n X w → Comes P (Below n X) v ((execOp a.eval oi).run P w))
    (h : wpL P md ops Q (Flag z n W1 W2) fuel (listed.setIfInBounds i true) (a.put oi.dst v)) : wpL P md ops Q (Flag z n W1 W2) (fuel + 1) listed a :=
  wpZ_take (op_of_drop hi) hs hf hr (Or.inl ⟨hw, fun L w _ hS => by
    have e : Flag z n W1 W2 (L.setIfInBounds i true) = Flag z n W1 W2 L := by unfold Flag; rw [getD_set_ne false hz]
    rw [e]
    unfold Flag at *
    split at hS
    · rename_i hc; simp only [hc, if_true]; exact h1 W2 (.inr rfl) w hS
    · rename_i hc; simp only [hc, if_false]; exact h1 W1 (.inl rfl) w hS⟩) h
theorem wpZ_skip {z n : Nat} {W1 W2 : World} (i : Nat) {oi : Oper} {rest : List Oper} {fuel : Nat} {listed : Array Bool} {a : Act} (hi : ops.toList.drop i = oi :: rest) (hs : Region.noSelect ops = true)
    (hf : Region.free md ops listed i = true) (hr : (Region.ready md ops listed).contains i = true) (hw : Region.wanted oi (yielded ops a.tmps) = false) (hz : i ≠ z)
    (h : wpL P md ops Q (Flag z n W1 W2) fuel (listed.setIfInBounds i true) (a.put oi.dst undef)) : wpL P md ops Q (Flag z n W1 W2) (fuel + 1) listed a :=
  wpZ_take (op_of_drop hi) hs hf hr (Or.inr ⟨hw, rfl, fun L w hS => by unfold Flag at *; rw [getD_set_ne false hz]; exact hS⟩) h
/-- number z itself -/
theorem wpZ_store {z n : Nat} {W1 W2 : World} {oi : Oper} {rest : List Oper} {v : Value} {fuel : Nat} {listed : Array Bool} {a : Act} (hi : ops.toList.drop z = oi :: rest) (hs : Region.noSelect ops = true)
    (hf : Region.free md ops listed z = true) (hr : (Region.ready md ops listed).contains z = true) (hw : Region.wanted oi (yielded ops a.tmps) = true)
    (h1 : ∀ w, Below n W1 w → Comes P (Below n W2) v ((execOp a.eval oi).run P w))
    (h : wpL P md ops Q (Flag z n W1 W2) fuel (listed.setIfInBounds z true) (a.put oi.dst v)) : wpL P md ops Q (Flag z n W1 W2) (fuel + 1) listed a :=
  wpZ_take (op_of_drop hi) hs hf hr (Or.inl ⟨hw, fun L w hl hS => by
    have h0 : L.getD z false = false := getD_both hl
    have h2 : (L.setIfInBounds z true).getD z false = true := by
      rcases Nat.lt_or_ge z L.size with h' | h'
      · simp [h']
      · simp [Array.getElem?_eq_none h'] at hl
    have e : Flag z n W1 W2 (L.setIfInBounds z true) = Below n W2 := by funext W; unfold Flag; rw [h2]; rfl
    rw [e]
    unfold Flag at hS
    rw [h0] at hS
    exact h1 w hS⟩) h
theorem wpZ_done {z n : Nat} {W1 W2 : World} {listed : Array Bool} {a : Act} (hr : Region.ready md ops listed = []) (hz : listed.getD z false = true) (h : ∀ w, Below n W2 w → Q .normal a w) : ∀ fuel, wpL P md ops Q (Flag z n W1 W2) fuel listed a
  | 0 => ⟨hr, fun w hS => h w (by unfold Flag at hS; rw [hz] at hS; exact hS)⟩
  | _ + 1 => ⟨fun _ w hS => h w (by unfold Flag at hS; rw [hz] at hS; exact hS), by rw [hr]; simp⟩
theorem wp_region_Z {id : Nat} {a : Act} {w : World} (z n : Nat) (W1 W2 : World) (hm : P.follows .mixedOrders = true) (hS : Below n W1 w.drew)
    (h : wpL P .any ops Q (Flag z n W1 W2) ops.size (Array.replicate ops.size false) a) : (Code.region id ops true).wp P Q a w :=
  wp_region_any hm (wpAny_of_L _ _ _ h _ (by unfold Flag; rw [getD_replicate_false]; exact hS))
theorem bcellN {n : Nat} {X W : World} (h : Below n X W) : (∀ b o, b < n → W.cell? ⟨b, o, none⟩ = X.cell? ⟨b, o, none⟩) ∧ (∀ b o, b < n → W.frozen? ⟨b, o, none⟩ = X.frozen? ⟨b, o, none⟩) :=
  ⟨fun b o hb => h.cell (p := ⟨b, o, none⟩) hb, fun b o hb => h.frozen (p := ⟨b, o, none⟩) hb⟩
theorem below_set2 {n : Nat} {W1 w : World} (h : Below n W1 w) (p : Addr) (u : Value) (hp : p.block < n) : Below n (W1.setCell p u) (w.setCell p u) :=
  ⟨h.os, h.tape, h.output, by simpa [World.setCell] using h.size, fun k hk => by
    simp only [World.setCell, Array.getElem?_modify]
    rw [h.block k hk]⟩
end
end Go.Proofs.Ytgjegildeejghaa
/- contract: a point divided by a number that is not 0 -/
namespace Go.Proofs.Ytgjegildeejghaa
open Go.ChangeShapes Go.WideShapes Go.ChangeAt Go.RowKit Go.Joins
set_option linter.unusedVariables false
set_option linter.unusedSimpArgs false
set_option maxRecDepth 4000
theorem tdivN_back (p n : Int) : (p.tmod n = 0 ↔ p.tdiv n * n = p) := by
  have := Int.tdiv_mul_add_tmod p n
  constructor <;> intro h <;> omega
theorem tdivN_bd (p n : Int) (h : Mid p) : Mid (p.tdiv n) ∧ Mid (p.tdiv n * n) := by
  have h2 : (p.tdiv n).natAbs ≤ p.natAbs := by rw [Int.natAbs_tdiv]; exact Nat.div_le_self _ _
  have h4 : (p.tdiv n * n).natAbs ≤ p.natAbs := by rw [Int.natAbs_mul, Int.natAbs_tdiv]; exact Nat.div_mul_le_self _ _
  unfold Mid at *
  omega
set_option maxHeartbeats 2000000 in
theorem dividedByN_any (p1 p2 n : Int) (w : World) (h1 : Mid p1) (h2 : Mid p2) (hn : n ≠ 0 ∧ -1000000 ≤ n ∧ n ≤ 1000000) :
    Calls Try.prog 69 #[.agg #[.int .i64 p1, .int .i64 p2], .int .i64 n] w fun e w' => e = .returned (.tuple #[.agg #[.int .i64 (p1.tdiv n), .int .i64 (p2.tdiv n)], .bool (decide (p1.tmod n = 0) && decide (p2.tmod n = 0))]) ∧ Below w.heap.size w w' := by
  obtain ⟨g1, g2⟩ := tdivN_bd p1 n h1
  obtain ⟨g3, g4⟩ := tdivN_bd p2 n h2
  have K := Lib.hid (fun W => times_any (p1.tdiv n) (p2.tdiv n) n W (by unfold Mid at g2; omega) (by unfold Mid at g4; omega))
  have e1 : decide (p1.tmod n = 0) = decide (p1.tdiv n * n = p1) := decide_eq_decide.2 (tdivN_back p1 n)
  have e2 : decide (p2.tmod n = 0) = decide (p2.tdiv n * n = p2) := decide_eq_decide.2 (tdivN_back p2 n)
  rw [e1, e2]
  generalize p1.tdiv n * n = m1 at *
  generalize p2.tdiv n * n = m2 at *
  obtain ⟨x1, x2⟩ := h1
  obtain ⟨x3, x4⟩ := h2
  obtain ⟨n0, n1, n2⟩ := hn
  have n3 : ¬ n = 0 := n0
  obtain ⟨x5, x6⟩ := g1
  obtain ⟨x7, x8⟩ := g3
  clear g2 g4 e1 e2
  by_cases c1 : m1 = p1
  · by_cases c2 : m2 = p2
    · subst c1 c2
      go_enter Try.func69, Try.ntmps69
      go_wp2_with fail
      obtain ⟨W0, hW0⟩ : ∃ W0, W0 = ((w.alloc (.cells #[.int .i64 m1, .int .i64 m2] 46)).alloc (.cells #[.int .i64 0, .int .i64 0] 46)) := ⟨_, rfl⟩
      rw [← hW0]
      have yW00_0 : W0.cell? ⟨w.heap.size, 0, none⟩ = some (.int .i64 m1) := by rw [hW0]; go_simp
      have yW00_1 : W0.cell? ⟨w.heap.size, 1, none⟩ = some (.int .i64 m2) := by rw [hW0]; go_simp
      have fW00 : ∀ o, W0.frozen? ⟨w.heap.size, o, none⟩ = false := by intro o; rw [hW0]; (repeat rw [frozen?_alloc_cells]); simp [World.frozen?]
      have zW00 : w.heap.size < W0.heap.size := by rw [hW0]; simp <;> omega
      have yW01_0 : W0.cell? ⟨w.heap.size + 1, 0, none⟩ = some (.int .i64 0) := by rw [hW0]; go_simp
      have yW01_1 : W0.cell? ⟨w.heap.size + 1, 1, none⟩ = some (.int .i64 0) := by rw [hW0]; go_simp
      have fW01 : ∀ o, W0.frozen? ⟨w.heap.size + 1, o, none⟩ = false := by intro o; rw [hW0]; (repeat rw [frozen?_alloc_cells]); simp [World.frozen?]
      have zW01 : w.heap.size + 1 < W0.heap.size := by rw [hW0]; simp <;> omega
      have BW0 : Below w.heap.size w W0 := by rw [hW0]; exact (Below.alloc (Below.alloc (Below.refl _ _) (by simp <;> omega) _) (by simp <;> omega) _)
      have eW0 : Hid (W0.heap.size = w.heap.size + 2) := Lib.hid (by rw [hW0]; simp)
      clear hW0
      go_region
      obtain ⟨W1, hW1⟩ : ∃ W1, W1 = (W0.alloc (.cells #[.int .i64 (m1.tdiv n), .int .i64 (m2.tdiv n)] 46)) := ⟨_, rfl⟩
      rw [← hW1]
      have yW10_0 : W1.cell? ⟨W0.heap.size, 0, none⟩ = some (.int .i64 (m1.tdiv n)) := by rw [hW1]; go_simp
      have yW10_1 : W1.cell? ⟨W0.heap.size, 1, none⟩ = some (.int .i64 (m2.tdiv n)) := by rw [hW1]; go_simp
      have fW10 : ∀ o, W1.frozen? ⟨W0.heap.size, o, none⟩ = false := by intro o; rw [hW1]; (repeat rw [frozen?_alloc_cells]); simp [World.frozen?]
      have zW10 : W0.heap.size < W1.heap.size := by rw [hW1]; simp <;> omega
      have BW1 : Below W0.heap.size W0 W1 := by rw [hW1]; exact (Below.alloc (Below.refl _ _) (by simp <;> omega) _)
      have eW1 : Hid (W1.heap.size = W0.heap.size + 1) := Lib.hid (by rw [hW1]; simp)
      clear hW1
      obtain ⟨hcA, hfA⟩ := bcell BW1
      have zA : w.heap.size < W1.heap.size := by omega
      have zB : w.heap.size + 1 < W1.heap.size := by omega
      have r0 := (hcA _ _ zW00).trans yW00_0
      have r1 := (hcA _ _ zW00).trans yW00_1
      have r2 := (hcA _ _ zW01).trans yW01_0
      have r3 := (hcA _ _ zW01).trans yW01_1
      have r4 : ∀ o, W1.frozen? ⟨w.heap.size + 1, o, none⟩ = false := fun o => (hfA _ _ zW01).trans (fW01 o)
      clear hcA hfA
      obtain ⟨W2, hW2⟩ : ∃ W2, W2 = (W1.setCell ⟨w.heap.size + 1, 0, none⟩ (.int .i64 (m1.tdiv n))).setCell ⟨w.heap.size + 1, 1, none⟩ (.int .i64 (m2.tdiv n)) := ⟨_, rfl⟩
      have ne : w.heap.size ≠ w.heap.size + 1 := by omega
      have ne2 : W0.heap.size ≠ w.heap.size + 1 := by omega
      have FX : Hid (∀ X, (X = W1 ∨ X = W2) → W1.heap.size ≤ X.heap.size ∧ X.cell? ⟨w.heap.size, 0, none⟩ = some (.int .i64 m1) ∧ X.cell? ⟨w.heap.size, 1, none⟩ = some (.int .i64 m2) ∧ X.cell? ⟨W0.heap.size, 0, none⟩ = some (.int .i64 (m1.tdiv n)) ∧ X.cell? ⟨W0.heap.size, 1, none⟩ = some (.int .i64 (m2.tdiv n))) := Lib.hid (fun X hX => by
        rcases hX with rfl | rfl
        · exact ⟨Nat.le_refl _, r0, r1, yW10_0, yW10_1⟩
        · rw [hW2]
          have o : ∀ (bb oo : Nat), bb ≠ w.heap.size + 1 → ((W1.setCell ⟨w.heap.size + 1, 0, none⟩ (.int .i64 (m1.tdiv n))).setCell ⟨w.heap.size + 1, 1, none⟩ (.int .i64 (m2.tdiv n))).cell? ⟨bb, oo, none⟩ = W1.cell? ⟨bb, oo, none⟩ := fun bb oo hh => by
            rw [World.cell?_setCell_other _ _ _ _ (fun e => hh (by injection e with e1 e2; exact e1.symm)), World.cell?_setCell_other _ _ _ _ (fun e => hh (by injection e with e1 e2; exact e1.symm))]
          exact ⟨by simp [World.setCell], (o _ _ ne).trans r0, (o _ _ ne).trans r1, (o _ _ ne2).trans yW10_0, (o _ _ ne2).trans yW10_1⟩)
      have HW2 := Lib.hid hW2
      have BW2 : Below w.heap.size w W2 := by
        rw [hW2]
        exact Below.setCell (Below.setCell (BW0.trans (BW1.mono BW0.size)) (by simp) _) (by simp) _
      have s0 : W2.cell? ⟨w.heap.size + 1, 0, none⟩ = some (.int .i64 (m1.tdiv n)) := by
        rw [hW2, World.cell?_setCell_other _ _ _ _ (fun e => by injection e with e1 e2; cases e2), World.cell?_setCell_same _ _ _ r2]
      have s1 : W2.cell? ⟨w.heap.size + 1, 1, none⟩ = some (.int .i64 (m2.tdiv n)) := by
        rw [hW2]
        exact World.cell?_setCell_same _ _ _ (show (W1.setCell ⟨w.heap.size + 1, 0, none⟩ (.int .i64 (m1.tdiv n))).cell? ⟨w.heap.size + 1, 1, none⟩ = some (.int .i64 0) by rw [World.cell?_setCell_other _ _ _ _ (fun e => by injection e with e1 e2; cases e2)]; exact r3)
      clear hW2
      go_wp2_with fail
      refine wp_region_Z 6 W1.heap.size W1 W2 (by kernel_rfl) (by repeat (first | exact Below.refl _ _ | apply Below.drew)) ?_
      first | refine wpZ_skip 0 rfl (by kernel_rfl) (by kernel_rfl) (by kernel_rfl) (by rfl) (by decide) ?_ | (refine wpZ_text 0 (v := ?_) rfl (by kernel_rfl) (by kernel_rfl) (by kernel_rfl) (by rfl) (by decide) (fun X hX W k1 => ?_) ?_; rotate_left; (obtain ⟨hX0, x0, x1, x2, x3⟩ := FX.out X hX; obtain ⟨hc1, hf1⟩ := bcellN k1; go_simp; refine comes_v ?_; exact k1))
      (try simp only [Act.put, List.setIfInBounds_toArray, List.set_cons_zero, List.set_cons_succ])
      first | refine wpZ_skip 1 rfl (by kernel_rfl) (by kernel_rfl) (by kernel_rfl) (by rfl) (by decide) ?_ | (refine wpZ_text 1 (v := ?_) rfl (by kernel_rfl) (by kernel_rfl) (by kernel_rfl) (by rfl) (by decide) (fun X hX W k1 => ?_) ?_; rotate_left; (obtain ⟨hX0, x0, x1, x2, x3⟩ := FX.out X hX; obtain ⟨hc1, hf1⟩ := bcellN k1; go_simp; refine comes_v ?_; exact k1))
      (try simp only [Act.put, List.setIfInBounds_toArray, List.set_cons_zero, List.set_cons_succ])
      first | refine wpZ_skip 2 rfl (by kernel_rfl) (by kernel_rfl) (by kernel_rfl) (by rfl) (by decide) ?_ | (refine wpZ_text 2 (v := ?_) rfl (by kernel_rfl) (by kernel_rfl) (by kernel_rfl) (by rfl) (by decide) (fun X hX W k1 => ?_) ?_; rotate_left; (obtain ⟨hX0, x0, x1, x2, x3⟩ := FX.out X hX; obtain ⟨hc1, hf1⟩ := bcellN k1; go_simp; refine comes_v ?_; exact k1))
      (try simp only [Act.put, List.setIfInBounds_toArray, List.set_cons_zero, List.set_cons_succ])
      first | refine wpZ_skip 3 rfl (by kernel_rfl) (by kernel_rfl) (by kernel_rfl) (by rfl) (by decide) ?_ | (refine wpZ_text 3 (v := .agg #[.int .i64 m1, .int .i64 m2]) rfl (by kernel_rfl) (by kernel_rfl) (by kernel_rfl) (by rfl) (by decide) (fun X hX W k1 => ?_) ?_; (obtain ⟨hX0, x0, x1, x2, x3⟩ := FX.out X hX; obtain ⟨hc1, hf1⟩ := bcellN k1; go_simp; exact comes_c ( K.out _) (fun wn hbn => k1.trans (hbn.mono (Nat.le_trans hX0 k1.size)))))
      (try simp only [Act.put, List.setIfInBounds_toArray, List.set_cons_zero, List.set_cons_succ])
      first | refine wpZ_skip 4 rfl (by kernel_rfl) (by kernel_rfl) (by kernel_rfl) (by rfl) (by decide) ?_ | (refine wpZ_text 4 (v := ?_) rfl (by kernel_rfl) (by kernel_rfl) (by kernel_rfl) (by rfl) (by decide) (fun X hX W k1 => ?_) ?_; rotate_left; (obtain ⟨hX0, x0, x1, x2, x3⟩ := FX.out X hX; obtain ⟨hc1, hf1⟩ := bcellN k1; go_simp; refine comes_v ?_; exact k1))
      (try simp only [Act.put, List.setIfInBounds_toArray, List.set_cons_zero, List.set_cons_succ])
      first | refine wpZ_skip 5 rfl (by kernel_rfl) (by kernel_rfl) (by kernel_rfl) (by rfl) (by decide) ?_ | (refine wpZ_text 5 (v := ?_) rfl (by kernel_rfl) (by kernel_rfl) (by kernel_rfl) (by rfl) (by decide) (fun X hX W k1 => ?_) ?_; rotate_left; (obtain ⟨hX0, x0, x1, x2, x3⟩ := FX.out X hX; obtain ⟨hc1, hf1⟩ := bcellN k1; go_simp; refine comes_v ?_; exact k1))
      (try simp only [Act.put, List.setIfInBounds_toArray, List.set_cons_zero, List.set_cons_succ])
      (refine wpZ_store (v := undef) rfl (by kernel_rfl) (by kernel_rfl) (by kernel_rfl) (by rfl) (fun W k1 => ?_) ?_; (obtain ⟨hc1, hf1⟩ := bcellN k1; go_simp; refine ⟨rfl, ?_⟩; rw [HW2.out]; exact below_set2 (below_set2 k1 _ _ zB) _ _ zB))
      (try simp only [Act.put, List.setIfInBounds_toArray, List.set_cons_zero, List.set_cons_succ])
      first | refine wpZ_skip 7 rfl (by kernel_rfl) (by kernel_rfl) (by kernel_rfl) (by rfl) (by decide) ?_ | (refine wpZ_text 7 (v := ?_) rfl (by kernel_rfl) (by kernel_rfl) (by kernel_rfl) (by rfl) (by decide) (fun X hX W k1 => ?_) ?_; rotate_left; (obtain ⟨hX0, x0, x1, x2, x3⟩ := FX.out X hX; obtain ⟨hc1, hf1⟩ := bcellN k1; go_simp; refine comes_v ?_; exact k1))
      (try simp only [Act.put, List.setIfInBounds_toArray, List.set_cons_zero, List.set_cons_succ])
      refine wpZ_done (by kernel_rfl) (by kernel_rfl) ?_ _
      intro W k1; obtain ⟨hc1, hf1⟩ := bcellN k1
      have B1 : Below w.heap.size w W := BW2.trans (k1.mono (by omega))
      go_wp2_with fail
      refine bodyPost_ret (v := .tuple #[.agg #[.int .i64 (m1.tdiv n), .int .i64 (m2.tdiv n)], .bool true]) (by simp [results, Try.results69, go_sem, hc1, zB, s0, s1]) rfl ⟨by simp , ?_⟩
      repeat (first | with_reducible assumption | with_reducible exact Below.refl _ _ | with_reducible apply Below.drew | ((with_reducible refine Below.setCell ?_ ?_ _); rotate_left; (first | exact Nat.le_refl _ | omega | (simp <;> omega))) | ((with_reducible refine Below.alloc ?_ ?_ _); rotate_left; (first | omega | (simp <;> omega))))
    · subst c1
      go_enter Try.func69, Try.ntmps69
      go_wp2_with fail
      obtain ⟨W0, hW0⟩ : ∃ W0, W0 = ((w.alloc (.cells #[.int .i64 m1, .int .i64 p2] 46)).alloc (.cells #[.int .i64 0, .int .i64 0] 46)) := ⟨_, rfl⟩
      rw [← hW0]
      have yW00_0 : W0.cell? ⟨w.heap.size, 0, none⟩ = some (.int .i64 m1) := by rw [hW0]; go_simp
      have yW00_1 : W0.cell? ⟨w.heap.size, 1, none⟩ = some (.int .i64 p2) := by rw [hW0]; go_simp
      have fW00 : ∀ o, W0.frozen? ⟨w.heap.size, o, none⟩ = false := by intro o; rw [hW0]; (repeat rw [frozen?_alloc_cells]); simp [World.frozen?]
      have zW00 : w.heap.size < W0.heap.size := by rw [hW0]; simp <;> omega
      have yW01_0 : W0.cell? ⟨w.heap.size + 1, 0, none⟩ = some (.int .i64 0) := by rw [hW0]; go_simp
      have yW01_1 : W0.cell? ⟨w.heap.size + 1, 1, none⟩ = some (.int .i64 0) := by rw [hW0]; go_simp
      have fW01 : ∀ o, W0.frozen? ⟨w.heap.size + 1, o, none⟩ = false := by intro o; rw [hW0]; (repeat rw [frozen?_alloc_cells]); simp [World.frozen?]
      have zW01 : w.heap.size + 1 < W0.heap.size := by rw [hW0]; simp <;> omega
      have BW0 : Below w.heap.size w W0 := by rw [hW0]; exact (Below.alloc (Below.alloc (Below.refl _ _) (by simp <;> omega) _) (by simp <;> omega) _)
      have eW0 : Hid (W0.heap.size = w.heap.size + 2) := Lib.hid (by rw [hW0]; simp)
      clear hW0
      go_region
      obtain ⟨W1, hW1⟩ : ∃ W1, W1 = (W0.alloc (.cells #[.int .i64 (m1.tdiv n), .int .i64 (p2.tdiv n)] 46)) := ⟨_, rfl⟩
      rw [← hW1]
      have yW10_0 : W1.cell? ⟨W0.heap.size, 0, none⟩ = some (.int .i64 (m1.tdiv n)) := by rw [hW1]; go_simp
      have yW10_1 : W1.cell? ⟨W0.heap.size, 1, none⟩ = some (.int .i64 (p2.tdiv n)) := by rw [hW1]; go_simp
      have fW10 : ∀ o, W1.frozen? ⟨W0.heap.size, o, none⟩ = false := by intro o; rw [hW1]; (repeat rw [frozen?_alloc_cells]); simp [World.frozen?]
      have zW10 : W0.heap.size < W1.heap.size := by rw [hW1]; simp <;> omega
      have BW1 : Below W0.heap.size W0 W1 := by rw [hW1]; exact (Below.alloc (Below.refl _ _) (by simp <;> omega) _)
      have eW1 : Hid (W1.heap.size = W0.heap.size + 1) := Lib.hid (by rw [hW1]; simp)
      clear hW1
      obtain ⟨hcA, hfA⟩ := bcell BW1
      have zA : w.heap.size < W1.heap.size := by omega
      have zB : w.heap.size + 1 < W1.heap.size := by omega
      have r0 := (hcA _ _ zW00).trans yW00_0
      have r1 := (hcA _ _ zW00).trans yW00_1
      have r2 := (hcA _ _ zW01).trans yW01_0
      have r3 := (hcA _ _ zW01).trans yW01_1
      have r4 : ∀ o, W1.frozen? ⟨w.heap.size + 1, o, none⟩ = false := fun o => (hfA _ _ zW01).trans (fW01 o)
      clear hcA hfA
      obtain ⟨W2, hW2⟩ : ∃ W2, W2 = (W1.setCell ⟨w.heap.size + 1, 0, none⟩ (.int .i64 (m1.tdiv n))).setCell ⟨w.heap.size + 1, 1, none⟩ (.int .i64 (p2.tdiv n)) := ⟨_, rfl⟩
      have ne : w.heap.size ≠ w.heap.size + 1 := by omega
      have ne2 : W0.heap.size ≠ w.heap.size + 1 := by omega
      have FX : Hid (∀ X, (X = W1 ∨ X = W2) → W1.heap.size ≤ X.heap.size ∧ X.cell? ⟨w.heap.size, 0, none⟩ = some (.int .i64 m1) ∧ X.cell? ⟨w.heap.size, 1, none⟩ = some (.int .i64 p2) ∧ X.cell? ⟨W0.heap.size, 0, none⟩ = some (.int .i64 (m1.tdiv n)) ∧ X.cell? ⟨W0.heap.size, 1, none⟩ = some (.int .i64 (p2.tdiv n))) := Lib.hid (fun X hX => by
        rcases hX with rfl | rfl
        · exact ⟨Nat.le_refl _, r0, r1, yW10_0, yW10_1⟩
        · rw [hW2]
          have o : ∀ (bb oo : Nat), bb ≠ w.heap.size + 1 → ((W1.setCell ⟨w.heap.size + 1, 0, none⟩ (.int .i64 (m1.tdiv n))).setCell ⟨w.heap.size + 1, 1, none⟩ (.int .i64 (p2.tdiv n))).cell? ⟨bb, oo, none⟩ = W1.cell? ⟨bb, oo, none⟩ := fun bb oo hh => by
            rw [World.cell?_setCell_other _ _ _ _ (fun e => hh (by injection e with e1 e2; exact e1.symm)), World.cell?_setCell_other _ _ _ _ (fun e => hh (by injection e with e1 e2; exact e1.symm))]
          exact ⟨by simp [World.setCell], (o _ _ ne).trans r0, (o _ _ ne).trans r1, (o _ _ ne2).trans yW10_0, (o _ _ ne2).trans yW10_1⟩)
      have HW2 := Lib.hid hW2
      have BW2 : Below w.heap.size w W2 := by
        rw [hW2]
        exact Below.setCell (Below.setCell (BW0.trans (BW1.mono BW0.size)) (by simp) _) (by simp) _
      have s0 : W2.cell? ⟨w.heap.size + 1, 0, none⟩ = some (.int .i64 (m1.tdiv n)) := by
        rw [hW2, World.cell?_setCell_other _ _ _ _ (fun e => by injection e with e1 e2; cases e2), World.cell?_setCell_same _ _ _ r2]
      have s1 : W2.cell? ⟨w.heap.size + 1, 1, none⟩ = some (.int .i64 (p2.tdiv n)) := by
        rw [hW2]
        exact World.cell?_setCell_same _ _ _ (show (W1.setCell ⟨w.heap.size + 1, 0, none⟩ (.int .i64 (m1.tdiv n))).cell? ⟨w.heap.size + 1, 1, none⟩ = some (.int .i64 0) by rw [World.cell?_setCell_other _ _ _ _ (fun e => by injection e with e1 e2; cases e2)]; exact r3)
      clear hW2
      go_wp2_with fail
      refine wp_region_Z 6 W1.heap.size W1 W2 (by kernel_rfl) (by repeat (first | exact Below.refl _ _ | apply Below.drew)) ?_
      first | refine wpZ_skip 0 rfl (by kernel_rfl) (by kernel_rfl) (by kernel_rfl) (by rfl) (by decide) ?_ | (refine wpZ_text 0 (v := ?_) rfl (by kernel_rfl) (by kernel_rfl) (by kernel_rfl) (by rfl) (by decide) (fun X hX W k1 => ?_) ?_; rotate_left; (obtain ⟨hX0, x0, x1, x2, x3⟩ := FX.out X hX; obtain ⟨hc1, hf1⟩ := bcellN k1; go_simp; refine comes_v ?_; exact k1))
      (try simp only [Act.put, List.setIfInBounds_toArray, List.set_cons_zero, List.set_cons_succ])
      first | refine wpZ_skip 1 rfl (by kernel_rfl) (by kernel_rfl) (by kernel_rfl) (by rfl) (by decide) ?_ | (refine wpZ_text 1 (v := ?_) rfl (by kernel_rfl) (by kernel_rfl) (by kernel_rfl) (by rfl) (by decide) (fun X hX W k1 => ?_) ?_; rotate_left; (obtain ⟨hX0, x0, x1, x2, x3⟩ := FX.out X hX; obtain ⟨hc1, hf1⟩ := bcellN k1; go_simp; refine comes_v ?_; exact k1))
      (try simp only [Act.put, List.setIfInBounds_toArray, List.set_cons_zero, List.set_cons_succ])
      first | refine wpZ_skip 2 rfl (by kernel_rfl) (by kernel_rfl) (by kernel_rfl) (by rfl) (by decide) ?_ | (refine wpZ_text 2 (v := ?_) rfl (by kernel_rfl) (by kernel_rfl) (by kernel_rfl) (by rfl) (by decide) (fun X hX W k1 => ?_) ?_; rotate_left; (obtain ⟨hX0, x0, x1, x2, x3⟩ := FX.out X hX; obtain ⟨hc1, hf1⟩ := bcellN k1; go_simp; refine comes_v ?_; exact k1))
      (try simp only [Act.put, List.setIfInBounds_toArray, List.set_cons_zero, List.set_cons_succ])
      first | refine wpZ_skip 3 rfl (by kernel_rfl) (by kernel_rfl) (by kernel_rfl) (by rfl) (by decide) ?_ | (refine wpZ_text 3 (v := .agg #[.int .i64 m1, .int .i64 m2]) rfl (by kernel_rfl) (by kernel_rfl) (by kernel_rfl) (by rfl) (by decide) (fun X hX W k1 => ?_) ?_; (obtain ⟨hX0, x0, x1, x2, x3⟩ := FX.out X hX; obtain ⟨hc1, hf1⟩ := bcellN k1; go_simp; exact comes_c ( K.out _) (fun wn hbn => k1.trans (hbn.mono (Nat.le_trans hX0 k1.size)))))
      (try simp only [Act.put, List.setIfInBounds_toArray, List.set_cons_zero, List.set_cons_succ])
      first | refine wpZ_skip 4 rfl (by kernel_rfl) (by kernel_rfl) (by kernel_rfl) (by rfl) (by decide) ?_ | (refine wpZ_text 4 (v := ?_) rfl (by kernel_rfl) (by kernel_rfl) (by kernel_rfl) (by rfl) (by decide) (fun X hX W k1 => ?_) ?_; rotate_left; (obtain ⟨hX0, x0, x1, x2, x3⟩ := FX.out X hX; obtain ⟨hc1, hf1⟩ := bcellN k1; go_simp; refine comes_v ?_; exact k1))
      (try simp only [Act.put, List.setIfInBounds_toArray, List.set_cons_zero, List.set_cons_succ])
      first | refine wpZ_skip 5 rfl (by kernel_rfl) (by kernel_rfl) (by kernel_rfl) (by rfl) (by decide) ?_ | (refine wpZ_text 5 (v := ?_) rfl (by kernel_rfl) (by kernel_rfl) (by kernel_rfl) (by rfl) (by decide) (fun X hX W k1 => ?_) ?_; rotate_left; (obtain ⟨hX0, x0, x1, x2, x3⟩ := FX.out X hX; obtain ⟨hc1, hf1⟩ := bcellN k1; go_simp; refine comes_v ?_; exact k1))
      (try simp only [Act.put, List.setIfInBounds_toArray, List.set_cons_zero, List.set_cons_succ])
      (refine wpZ_store (v := undef) rfl (by kernel_rfl) (by kernel_rfl) (by kernel_rfl) (by rfl) (fun W k1 => ?_) ?_; (obtain ⟨hc1, hf1⟩ := bcellN k1; go_simp; refine ⟨rfl, ?_⟩; rw [HW2.out]; exact below_set2 (below_set2 k1 _ _ zB) _ _ zB))
      (try simp only [Act.put, List.setIfInBounds_toArray, List.set_cons_zero, List.set_cons_succ])
      first | refine wpZ_skip 7 rfl (by kernel_rfl) (by kernel_rfl) (by kernel_rfl) (by rfl) (by decide) ?_ | (refine wpZ_text 7 (v := ?_) rfl (by kernel_rfl) (by kernel_rfl) (by kernel_rfl) (by rfl) (by decide) (fun X hX W k1 => ?_) ?_; rotate_left; (obtain ⟨hX0, x0, x1, x2, x3⟩ := FX.out X hX; obtain ⟨hc1, hf1⟩ := bcellN k1; go_simp; refine comes_v ?_; exact k1))
      (try simp only [Act.put, List.setIfInBounds_toArray, List.set_cons_zero, List.set_cons_succ])
      refine wpZ_done (by kernel_rfl) (by kernel_rfl) ?_ _
      intro W k1; obtain ⟨hc1, hf1⟩ := bcellN k1
      have B1 : Below w.heap.size w W := BW2.trans (k1.mono (by omega))
      go_wp2_with fail
      refine bodyPost_ret (v := .tuple #[.agg #[.int .i64 (m1.tdiv n), .int .i64 (p2.tdiv n)], .bool false]) (by simp [results, Try.results69, go_sem, hc1, zB, s0, s1]) rfl ⟨by simp [c2], ?_⟩
      repeat (first | with_reducible assumption | with_reducible exact Below.refl _ _ | with_reducible apply Below.drew | ((with_reducible refine Below.setCell ?_ ?_ _); rotate_left; (first | exact Nat.le_refl _ | omega | (simp <;> omega))) | ((with_reducible refine Below.alloc ?_ ?_ _); rotate_left; (first | omega | (simp <;> omega))))
  · by_cases c2 : m2 = p2
    · subst c2
      go_enter Try.func69, Try.ntmps69
      go_wp2_with fail
      obtain ⟨W0, hW0⟩ : ∃ W0, W0 = ((w.alloc (.cells #[.int .i64 p1, .int .i64 m2] 46)).alloc (.cells #[.int .i64 0, .int .i64 0] 46)) := ⟨_, rfl⟩
      rw [← hW0]
      have yW00_0 : W0.cell? ⟨w.heap.size, 0, none⟩ = some (.int .i64 p1) := by rw [hW0]; go_simp
      have yW00_1 : W0.cell? ⟨w.heap.size, 1, none⟩ = some (.int .i64 m2) := by rw [hW0]; go_simp
      have fW00 : ∀ o, W0.frozen? ⟨w.heap.size, o, none⟩ = false := by intro o; rw [hW0]; (repeat rw [frozen?_alloc_cells]); simp [World.frozen?]
      have zW00 : w.heap.size < W0.heap.size := by rw [hW0]; simp <;> omega
      have yW01_0 : W0.cell? ⟨w.heap.size + 1, 0, none⟩ = some (.int .i64 0) := by rw [hW0]; go_simp
      have yW01_1 : W0.cell? ⟨w.heap.size + 1, 1, none⟩ = some (.int .i64 0) := by rw [hW0]; go_simp
      have fW01 : ∀ o, W0.frozen? ⟨w.heap.size + 1, o, none⟩ = false := by intro o; rw [hW0]; (repeat rw [frozen?_alloc_cells]); simp [World.frozen?]
      have zW01 : w.heap.size + 1 < W0.heap.size := by rw [hW0]; simp <;> omega
      have BW0 : Below w.heap.size w W0 := by rw [hW0]; exact (Below.alloc (Below.alloc (Below.refl _ _) (by simp <;> omega) _) (by simp <;> omega) _)
      have eW0 : Hid (W0.heap.size = w.heap.size + 2) := Lib.hid (by rw [hW0]; simp)
      clear hW0
      go_region
      obtain ⟨W1, hW1⟩ : ∃ W1, W1 = (W0.alloc (.cells #[.int .i64 (p1.tdiv n), .int .i64 (m2.tdiv n)] 46)) := ⟨_, rfl⟩
      rw [← hW1]
      have yW10_0 : W1.cell? ⟨W0.heap.size, 0, none⟩ = some (.int .i64 (p1.tdiv n)) := by rw [hW1]; go_simp
      have yW10_1 : W1.cell? ⟨W0.heap.size, 1, none⟩ = some (.int .i64 (m2.tdiv n)) := by rw [hW1]; go_simp
      have fW10 : ∀ o, W1.frozen? ⟨W0.heap.size, o, none⟩ = false := by intro o; rw [hW1]; (repeat rw [frozen?_alloc_cells]); simp [World.frozen?]
      have zW10 : W0.heap.size < W1.heap.size := by rw [hW1]; simp <;> omega
      have BW1 : Below W0.heap.size W0 W1 := by rw [hW1]; exact (Below.alloc (Below.refl _ _) (by simp <;> omega) _)
      have eW1 : Hid (W1.heap.size = W0.heap.size + 1) := Lib.hid (by rw [hW1]; simp)
      clear hW1
      obtain ⟨hcA, hfA⟩ := bcell BW1
      have zA : w.heap.size < W1.heap.size := by omega
      have zB : w.heap.size + 1 < W1.heap.size := by omega
      have r0 := (hcA _ _ zW00).trans yW00_0
      have r1 := (hcA _ _ zW00).trans yW00_1
      have r2 := (hcA _ _ zW01).trans yW01_0
      have r3 := (hcA _ _ zW01).trans yW01_1
      have r4 : ∀ o, W1.frozen? ⟨w.heap.size + 1, o, none⟩ = false := fun o => (hfA _ _ zW01).trans (fW01 o)
      clear hcA hfA
      obtain ⟨W2, hW2⟩ : ∃ W2, W2 = (W1.setCell ⟨w.heap.size + 1, 0, none⟩ (.int .i64 (p1.tdiv n))).setCell ⟨w.heap.size + 1, 1, none⟩ (.int .i64 (m2.tdiv n)) := ⟨_, rfl⟩
      have ne : w.heap.size ≠ w.heap.size + 1 := by omega
      have ne2 : W0.heap.size ≠ w.heap.size + 1 := by omega
      have FX : Hid (∀ X, (X = W1 ∨ X = W2) → W1.heap.size ≤ X.heap.size ∧ X.cell? ⟨w.heap.size, 0, none⟩ = some (.int .i64 p1) ∧ X.cell? ⟨w.heap.size, 1, none⟩ = some (.int .i64 m2) ∧ X.cell? ⟨W0.heap.size, 0, none⟩ = some (.int .i64 (p1.tdiv n)) ∧ X.cell? ⟨W0.heap.size, 1, none⟩ = some (.int .i64 (m2.tdiv n))) := Lib.hid (fun X hX => by
        rcases hX with rfl | rfl
        · exact ⟨Nat.le_refl _, r0, r1, yW10_0, yW10_1⟩
        · rw [hW2]
          have o : ∀ (bb oo : Nat), bb ≠ w.heap.size + 1 → ((W1.setCell ⟨w.heap.size + 1, 0, none⟩ (.int .i64 (p1.tdiv n))).setCell ⟨w.heap.size + 1, 1, none⟩ (.int .i64 (m2.tdiv n))).cell? ⟨bb, oo, none⟩ = W1.cell? ⟨bb, oo, none⟩ := fun bb oo hh => by
            rw [World.cell?_setCell_other _ _ _ _ (fun e => hh (by injection e with e1 e2; exact e1.symm)), World.cell?_setCell_other _ _ _ _ (fun e => hh (by injection e with e1 e2; exact e1.symm))]
          exact ⟨by simp [World.setCell], (o _ _ ne).trans r0, (o _ _ ne).trans r1, (o _ _ ne2).trans yW10_0, (o _ _ ne2).trans yW10_1⟩)
      have HW2 := Lib.hid hW2
      have BW2 : Below w.heap.size w W2 := by
        rw [hW2]
        exact Below.setCell (Below.setCell (BW0.trans (BW1.mono BW0.size)) (by simp) _) (by simp) _
      have s0 : W2.cell? ⟨w.heap.size + 1, 0, none⟩ = some (.int .i64 (p1.tdiv n)) := by
        rw [hW2, World.cell?_setCell_other _ _ _ _ (fun e => by injection e with e1 e2; cases e2), World.cell?_setCell_same _ _ _ r2]
      have s1 : W2.cell? ⟨w.heap.size + 1, 1, none⟩ = some (.int .i64 (m2.tdiv n)) := by
        rw [hW2]
        exact World.cell?_setCell_same _ _ _ (show (W1.setCell ⟨w.heap.size + 1, 0, none⟩ (.int .i64 (p1.tdiv n))).cell? ⟨w.heap.size + 1, 1, none⟩ = some (.int .i64 0) by rw [World.cell?_setCell_other _ _ _ _ (fun e => by injection e with e1 e2; cases e2)]; exact r3)
      clear hW2
      go_wp2_with fail
      refine wp_region_Z 6 W1.heap.size W1 W2 (by kernel_rfl) (by repeat (first | exact Below.refl _ _ | apply Below.drew)) ?_
      first | refine wpZ_skip 0 rfl (by kernel_rfl) (by kernel_rfl) (by kernel_rfl) (by rfl) (by decide) ?_ | (refine wpZ_text 0 (v := ?_) rfl (by kernel_rfl) (by kernel_rfl) (by kernel_rfl) (by rfl) (by decide) (fun X hX W k1 => ?_) ?_; rotate_left; (obtain ⟨hX0, x0, x1, x2, x3⟩ := FX.out X hX; obtain ⟨hc1, hf1⟩ := bcellN k1; go_simp; refine comes_v ?_; exact k1))
      (try simp only [Act.put, List.setIfInBounds_toArray, List.set_cons_zero, List.set_cons_succ])
      first | refine wpZ_skip 1 rfl (by kernel_rfl) (by kernel_rfl) (by kernel_rfl) (by rfl) (by decide) ?_ | (refine wpZ_text 1 (v := ?_) rfl (by kernel_rfl) (by kernel_rfl) (by kernel_rfl) (by rfl) (by decide) (fun X hX W k1 => ?_) ?_; rotate_left; (obtain ⟨hX0, x0, x1, x2, x3⟩ := FX.out X hX; obtain ⟨hc1, hf1⟩ := bcellN k1; go_simp; refine comes_v ?_; exact k1))
      (try simp only [Act.put, List.setIfInBounds_toArray, List.set_cons_zero, List.set_cons_succ])
      first | refine wpZ_skip 2 rfl (by kernel_rfl) (by kernel_rfl) (by kernel_rfl) (by rfl) (by decide) ?_ | (refine wpZ_text 2 (v := ?_) rfl (by kernel_rfl) (by kernel_rfl) (by kernel_rfl) (by rfl) (by decide) (fun X hX W k1 => ?_) ?_; rotate_left; (obtain ⟨hX0, x0, x1, x2, x3⟩ := FX.out X hX; obtain ⟨hc1, hf1⟩ := bcellN k1; go_simp; refine comes_v ?_; exact k1))
      (try simp only [Act.put, List.setIfInBounds_toArray, List.set_cons_zero, List.set_cons_succ])
      first | refine wpZ_skip 3 rfl (by kernel_rfl) (by kernel_rfl) (by kernel_rfl) (by rfl) (by decide) ?_ | (refine wpZ_text 3 (v := .agg #[.int .i64 m1, .int .i64 m2]) rfl (by kernel_rfl) (by kernel_rfl) (by kernel_rfl) (by rfl) (by decide) (fun X hX W k1 => ?_) ?_; (obtain ⟨hX0, x0, x1, x2, x3⟩ := FX.out X hX; obtain ⟨hc1, hf1⟩ := bcellN k1; go_simp; exact comes_c ( K.out _) (fun wn hbn => k1.trans (hbn.mono (Nat.le_trans hX0 k1.size)))))
      (try simp only [Act.put, List.setIfInBounds_toArray, List.set_cons_zero, List.set_cons_succ])
      first | refine wpZ_skip 4 rfl (by kernel_rfl) (by kernel_rfl) (by kernel_rfl) (by rfl) (by decide) ?_ | (refine wpZ_text 4 (v := ?_) rfl (by kernel_rfl) (by kernel_rfl) (by kernel_rfl) (by rfl) (by decide) (fun X hX W k1 => ?_) ?_; rotate_left; (obtain ⟨hX0, x0, x1, x2, x3⟩ := FX.out X hX; obtain ⟨hc1, hf1⟩ := bcellN k1; go_simp; refine comes_v ?_; exact k1))
      (try simp only [Act.put, List.setIfInBounds_toArray, List.set_cons_zero, List.set_cons_succ])
      first | refine wpZ_skip 5 rfl (by kernel_rfl) (by kernel_rfl) (by kernel_rfl) (by rfl) (by decide) ?_ | (refine wpZ_text 5 (v := ?_) rfl (by kernel_rfl) (by kernel_rfl) (by kernel_rfl) (by rfl) (by decide) (fun X hX W k1 => ?_) ?_; rotate_left; (obtain ⟨hX0, x0, x1, x2, x3⟩ := FX.out X hX; obtain ⟨hc1, hf1⟩ := bcellN k1; go_simp; refine comes_v ?_; exact k1))
      (try simp only [Act.put, List.setIfInBounds_toArray, List.set_cons_zero, List.set_cons_succ])
      (refine wpZ_store (v := undef) rfl (by kernel_rfl) (by kernel_rfl) (by kernel_rfl) (by rfl) (fun W k1 => ?_) ?_; (obtain ⟨hc1, hf1⟩ := bcellN k1; go_simp; refine ⟨rfl, ?_⟩; rw [HW2.out]; exact below_set2 (below_set2 k1 _ _ zB) _ _ zB))
      (try simp only [Act.put, List.setIfInBounds_toArray, List.set_cons_zero, List.set_cons_succ])
      first | refine wpZ_skip 7 rfl (by kernel_rfl) (by kernel_rfl) (by kernel_rfl) (by rfl) (by decide) ?_ | (refine wpZ_text 7 (v := ?_) rfl (by kernel_rfl) (by kernel_rfl) (by kernel_rfl) (by rfl) (by decide) (fun X hX W k1 => ?_) ?_; rotate_left; (obtain ⟨hX0, x0, x1, x2, x3⟩ := FX.out X hX; obtain ⟨hc1, hf1⟩ := bcellN k1; go_simp; refine comes_v ?_; exact k1))
      (try simp only [Act.put, List.setIfInBounds_toArray, List.set_cons_zero, List.set_cons_succ])
      refine wpZ_done (by kernel_rfl) (by kernel_rfl) ?_ _
      intro W k1; obtain ⟨hc1, hf1⟩ := bcellN k1
      have B1 : Below w.heap.size w W := BW2.trans (k1.mono (by omega))
      go_wp2_with fail
      refine bodyPost_ret (v := .tuple #[.agg #[.int .i64 (p1.tdiv n), .int .i64 (m2.tdiv n)], .bool false]) (by simp [results, Try.results69, go_sem, hc1, zB, s0, s1]) rfl ⟨by simp [c1], ?_⟩
      repeat (first | with_reducible assumption | with_reducible exact Below.refl _ _ | with_reducible apply Below.drew | ((with_reducible refine Below.setCell ?_ ?_ _); rotate_left; (first | exact Nat.le_refl _ | omega | (simp <;> omega))) | ((with_reducible refine Below.alloc ?_ ?_ _); rotate_left; (first | omega | (simp <;> omega))))
    · skip
      go_enter Try.func69, Try.ntmps69
      go_wp2_with fail
      obtain ⟨W0, hW0⟩ : ∃ W0, W0 = ((w.alloc (.cells #[.int .i64 p1, .int .i64 p2] 46)).alloc (.cells #[.int .i64 0, .int .i64 0] 46)) := ⟨_, rfl⟩
      rw [← hW0]
      have yW00_0 : W0.cell? ⟨w.heap.size, 0, none⟩ = some (.int .i64 p1) := by rw [hW0]; go_simp
      have yW00_1 : W0.cell? ⟨w.heap.size, 1, none⟩ = some (.int .i64 p2) := by rw [hW0]; go_simp
      have fW00 : ∀ o, W0.frozen? ⟨w.heap.size, o, none⟩ = false := by intro o; rw [hW0]; (repeat rw [frozen?_alloc_cells]); simp [World.frozen?]
      have zW00 : w.heap.size < W0.heap.size := by rw [hW0]; simp <;> omega
      have yW01_0 : W0.cell? ⟨w.heap.size + 1, 0, none⟩ = some (.int .i64 0) := by rw [hW0]; go_simp
      have yW01_1 : W0.cell? ⟨w.heap.size + 1, 1, none⟩ = some (.int .i64 0) := by rw [hW0]; go_simp
      have fW01 : ∀ o, W0.frozen? ⟨w.heap.size + 1, o, none⟩ = false := by intro o; rw [hW0]; (repeat rw [frozen?_alloc_cells]); simp [World.frozen?]
      have zW01 : w.heap.size + 1 < W0.heap.size := by rw [hW0]; simp <;> omega
      have BW0 : Below w.heap.size w W0 := by rw [hW0]; exact (Below.alloc (Below.alloc (Below.refl _ _) (by simp <;> omega) _) (by simp <;> omega) _)
      have eW0 : Hid (W0.heap.size = w.heap.size + 2) := Lib.hid (by rw [hW0]; simp)
      clear hW0
      go_region
      obtain ⟨W1, hW1⟩ : ∃ W1, W1 = (W0.alloc (.cells #[.int .i64 (p1.tdiv n), .int .i64 (p2.tdiv n)] 46)) := ⟨_, rfl⟩
      rw [← hW1]
      have yW10_0 : W1.cell? ⟨W0.heap.size, 0, none⟩ = some (.int .i64 (p1.tdiv n)) := by rw [hW1]; go_simp
      have yW10_1 : W1.cell? ⟨W0.heap.size, 1, none⟩ = some (.int .i64 (p2.tdiv n)) := by rw [hW1]; go_simp
      have fW10 : ∀ o, W1.frozen? ⟨W0.heap.size, o, none⟩ = false := by intro o; rw [hW1]; (repeat rw [frozen?_alloc_cells]); simp [World.frozen?]
      have zW10 : W0.heap.size < W1.heap.size := by rw [hW1]; simp <;> omega
      have BW1 : Below W0.heap.size W0 W1 := by rw [hW1]; exact (Below.alloc (Below.refl _ _) (by simp <;> omega) _)
      have eW1 : Hid (W1.heap.size = W0.heap.size + 1) := Lib.hid (by rw [hW1]; simp)
      clear hW1
      obtain ⟨hcA, hfA⟩ := bcell BW1
      have zA : w.heap.size < W1.heap.size := by omega
      have zB : w.heap.size + 1 < W1.heap.size := by omega
      have r0 := (hcA _ _ zW00).trans yW00_0
      have r1 := (hcA _ _ zW00).trans yW00_1
      have r2 := (hcA _ _ zW01).trans yW01_0
      have r3 := (hcA _ _ zW01).trans yW01_1
      have r4 : ∀ o, W1.frozen? ⟨w.heap.size + 1, o, none⟩ = false := fun o => (hfA _ _ zW01).trans (fW01 o)
      clear hcA hfA
      obtain ⟨W2, hW2⟩ : ∃ W2, W2 = (W1.setCell ⟨w.heap.size + 1, 0, none⟩ (.int .i64 (p1.tdiv n))).setCell ⟨w.heap.size + 1, 1, none⟩ (.int .i64 (p2.tdiv n)) := ⟨_, rfl⟩
      have ne : w.heap.size ≠ w.heap.size + 1 := by omega
      have ne2 : W0.heap.size ≠ w.heap.size + 1 := by omega
      have FX : Hid (∀ X, (X = W1 ∨ X = W2) → W1.heap.size ≤ X.heap.size ∧ X.cell? ⟨w.heap.size, 0, none⟩ = some (.int .i64 p1) ∧ X.cell? ⟨w.heap.size, 1, none⟩ = some (.int .i64 p2) ∧ X.cell? ⟨W0.heap.size, 0, none⟩ = some (.int .i64 (p1.tdiv n)) ∧ X.cell? ⟨W0.heap.size, 1, none⟩ = some (.int .i64 (p2.tdiv n))) := Lib.hid (fun X hX => by
        rcases hX with rfl | rfl
        · exact ⟨Nat.le_refl _, r0, r1, yW10_0, yW10_1⟩
        · rw [hW2]
          have o : ∀ (bb oo : Nat), bb ≠ w.heap.size + 1 → ((W1.setCell ⟨w.heap.size + 1, 0, none⟩ (.int .i64 (p1.tdiv n))).setCell ⟨w.heap.size + 1, 1, none⟩ (.int .i64 (p2.tdiv n))).cell? ⟨bb, oo, none⟩ = W1.cell? ⟨bb, oo, none⟩ := fun bb oo hh => by
            rw [World.cell?_setCell_other _ _ _ _ (fun e => hh (by injection e with e1 e2; exact e1.symm)), World.cell?_setCell_other _ _ _ _ (fun e => hh (by injection e with e1 e2; exact e1.symm))]
          exact ⟨by simp [World.setCell], (o _ _ ne).trans r0, (o _ _ ne).trans r1, (o _ _ ne2).trans yW10_0, (o _ _ ne2).trans yW10_1⟩)
      have HW2 := Lib.hid hW2
      have BW2 : Below w.heap.size w W2 := by
        rw [hW2]
        exact Below.setCell (Below.setCell (BW0.trans (BW1.mono BW0.size)) (by simp) _) (by simp) _
      have s0 : W2.cell? ⟨w.heap.size + 1, 0, none⟩ = some (.int .i64 (p1.tdiv n)) := by
        rw [hW2, World.cell?_setCell_other _ _ _ _ (fun e => by injection e with e1 e2; cases e2), World.cell?_setCell_same _ _ _ r2]
      have s1 : W2.cell? ⟨w.heap.size + 1, 1, none⟩ = some (.int .i64 (p2.tdiv n)) := by
        rw [hW2]
        exact World.cell?_setCell_same _ _ _ (show (W1.setCell ⟨w.heap.size + 1, 0, none⟩ (.int .i64 (p1.tdiv n))).cell? ⟨w.heap.size + 1, 1, none⟩ = some (.int .i64 0) by rw [World.cell?_setCell_other _ _ _ _ (fun e => by injection e with e1 e2; cases e2)]; exact r3)
      clear hW2
      go_wp2_with fail
      refine wp_region_Z 6 W1.heap.size W1 W2 (by kernel_rfl) (by repeat (first | exact Below.refl _ _ | apply Below.drew)) ?_
      first | refine wpZ_skip 0 rfl (by kernel_rfl) (by kernel_rfl) (by kernel_rfl) (by rfl) (by decide) ?_ | (refine wpZ_text 0 (v := ?_) rfl (by kernel_rfl) (by kernel_rfl) (by kernel_rfl) (by rfl) (by decide) (fun X hX W k1 => ?_) ?_; rotate_left; (obtain ⟨hX0, x0, x1, x2, x3⟩ := FX.out X hX; obtain ⟨hc1, hf1⟩ := bcellN k1; go_simp; refine comes_v ?_; exact k1))
      (try simp only [Act.put, List.setIfInBounds_toArray, List.set_cons_zero, List.set_cons_succ])
      first | refine wpZ_skip 1 rfl (by kernel_rfl) (by kernel_rfl) (by kernel_rfl) (by rfl) (by decide) ?_ | (refine wpZ_text 1 (v := ?_) rfl (by kernel_rfl) (by kernel_rfl) (by kernel_rfl) (by rfl) (by decide) (fun X hX W k1 => ?_) ?_; rotate_left; (obtain ⟨hX0, x0, x1, x2, x3⟩ := FX.out X hX; obtain ⟨hc1, hf1⟩ := bcellN k1; go_simp; refine comes_v ?_; exact k1))
      (try simp only [Act.put, List.setIfInBounds_toArray, List.set_cons_zero, List.set_cons_succ])
      first | refine wpZ_skip 2 rfl (by kernel_rfl) (by kernel_rfl) (by kernel_rfl) (by rfl) (by decide) ?_ | (refine wpZ_text 2 (v := ?_) rfl (by kernel_rfl) (by kernel_rfl) (by kernel_rfl) (by rfl) (by decide) (fun X hX W k1 => ?_) ?_; rotate_left; (obtain ⟨hX0, x0, x1, x2, x3⟩ := FX.out X hX; obtain ⟨hc1, hf1⟩ := bcellN k1; go_simp; refine comes_v ?_; exact k1))
      (try simp only [Act.put, List.setIfInBounds_toArray, List.set_cons_zero, List.set_cons_succ])
      first | refine wpZ_skip 3 rfl (by kernel_rfl) (by kernel_rfl) (by kernel_rfl) (by rfl) (by decide) ?_ | (refine wpZ_text 3 (v := .agg #[.int .i64 m1, .int .i64 m2]) rfl (by kernel_rfl) (by kernel_rfl) (by kernel_rfl) (by rfl) (by decide) (fun X hX W k1 => ?_) ?_; (obtain ⟨hX0, x0, x1, x2, x3⟩ := FX.out X hX; obtain ⟨hc1, hf1⟩ := bcellN k1; go_simp; exact comes_c ( K.out _) (fun wn hbn => k1.trans (hbn.mono (Nat.le_trans hX0 k1.size)))))
      (try simp only [Act.put, List.setIfInBounds_toArray, List.set_cons_zero, List.set_cons_succ])
      first | refine wpZ_skip 4 rfl (by kernel_rfl) (by kernel_rfl) (by kernel_rfl) (by rfl) (by decide) ?_ | (refine wpZ_text 4 (v := ?_) rfl (by kernel_rfl) (by kernel_rfl) (by kernel_rfl) (by rfl) (by decide) (fun X hX W k1 => ?_) ?_; rotate_left; (obtain ⟨hX0, x0, x1, x2, x3⟩ := FX.out X hX; obtain ⟨hc1, hf1⟩ := bcellN k1; go_simp; refine comes_v ?_; exact k1))
      (try simp only [Act.put, List.setIfInBounds_toArray, List.set_cons_zero, List.set_cons_succ])
      first | refine wpZ_skip 5 rfl (by kernel_rfl) (by kernel_rfl) (by kernel_rfl) (by rfl) (by decide) ?_ | (refine wpZ_text 5 (v := ?_) rfl (by kernel_rfl) (by kernel_rfl) (by kernel_rfl) (by rfl) (by decide) (fun X hX W k1 => ?_) ?_; rotate_left; (obtain ⟨hX0, x0, x1, x2, x3⟩ := FX.out X hX; obtain ⟨hc1, hf1⟩ := bcellN k1; go_simp; refine comes_v ?_; exact k1))
      (try simp only [Act.put, List.setIfInBounds_toArray, List.set_cons_zero, List.set_cons_succ])
      (refine wpZ_store (v := undef) rfl (by kernel_rfl) (by kernel_rfl) (by kernel_rfl) (by rfl) (fun W k1 => ?_) ?_; (obtain ⟨hc1, hf1⟩ := bcellN k1; go_simp; refine ⟨rfl, ?_⟩; rw [HW2.out]; exact below_set2 (below_set2 k1 _ _ zB) _ _ zB))
      (try simp only [Act.put, List.setIfInBounds_toArray, List.set_cons_zero, List.set_cons_succ])
      first | refine wpZ_skip 7 rfl (by kernel_rfl) (by kernel_rfl) (by kernel_rfl) (by rfl) (by decide) ?_ | (refine wpZ_text 7 (v := ?_) rfl (by kernel_rfl) (by kernel_rfl) (by kernel_rfl) (by rfl) (by decide) (fun X hX W k1 => ?_) ?_; rotate_left; (obtain ⟨hX0, x0, x1, x2, x3⟩ := FX.out X hX; obtain ⟨hc1, hf1⟩ := bcellN k1; go_simp; refine comes_v ?_; exact k1))
      (try simp only [Act.put, List.setIfInBounds_toArray, List.set_cons_zero, List.set_cons_succ])
      refine wpZ_done (by kernel_rfl) (by kernel_rfl) ?_ _
      intro W k1; obtain ⟨hc1, hf1⟩ := bcellN k1
      have B1 : Below w.heap.size w W := BW2.trans (k1.mono (by omega))
      go_wp2_with fail
      refine bodyPost_ret (v := .tuple #[.agg #[.int .i64 (p1.tdiv n), .int .i64 (p2.tdiv n)], .bool false]) (by simp [results, Try.results69, go_sem, hc1, zB, s0, s1]) rfl ⟨by simp [c1], ?_⟩
      repeat (first | with_reducible assumption | with_reducible exact Below.refl _ _ | with_reducible apply Below.drew | ((with_reducible refine Below.setCell ?_ ?_ _); rotate_left; (first | exact Nat.le_refl _ | omega | (simp <;> omega))) | ((with_reducible refine Below.alloc ?_ ?_ _); rotate_left; (first | omega | (simp <;> omega))))
end Go.Proofs.Ytgjegildeejghaa

