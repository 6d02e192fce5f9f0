/- joined: MD Kq Yi -/
import Derived.Test.YthpbnfmfedggjaaMC
import Derived.Test.YthpbnfmfedggjaaMB
import Derived.Test.YthpbnfmfedggjaaMS
import Derived.Test.YthpbnfmfedggjaaKZ
import Derived.Test.YthpbnfmfedggjaaSax
import Derived.Test.YthpbnfmfedggjaaLa
/- contracts: the points of a band and its layers -/
namespace Go.Proofs.Ythpbnfmfedggjaa
open Go.ChangeShapes Go.WideShapes Go.ChangeAt Go.RowKit Go.Joins
set_option linter.unusedVariables false
set_option linter.unusedSimpArgs false
set_option maxRecDepth 4000
theorem onL_len {l : List (Int × Int)} : (onL l).length ≤ l.length := by
  unfold onL
  have := List.length_filter_le (onF (band l)) (srt l)
  rw [srt_len] at this
  exact this
theorem onL_le (l : List (Int × Int)) : (sel (difB l) (onL l)).length ≤ 1048576 := by
  unfold sel
  split
  · rename_i h
    have := (dif_of h).few
    have := onL_len (l := l)
    omega
  · simp
theorem specPegsOfBand_any (A : Option Addr) (c : Nat) (l : List (Int × Int)) (w : World) (hn : l.length ≤ 1048576) (hcap : l.length ≤ c) (hc2 : c ≤ 9223372036854775807) (hR : Rd w w.heap.size A l) :
    Calls Try.prog 33 #[.slice A l.length c] w (RetL w (sel (difB l) (onL l)) (difB l)) := by
  have K := Lib.hid (bdGood_any A c l w hn hcap hc2 hR)
  by_cases hg : Dif l
  · have hgt := difB_true hg
    rw [hgt] at K ⊢
    have K2 := Lib.hid (fun W (hb : Below w.heap.size w W) => bdOuter_any A c l.length l W rfl hg (rd_more (rd_below hR hb (Nat.le_refl _)) hb.size))
    clear hgt hg hR
    show Calls _ _ _ _ (RetL w (onL l) true)
    generalize onL l = m at *
    generalize offL l = m2 at *
    go_enter Try.func33, Try.ntmps33
    go_wp2_with fail
    refine K.out.mono ?_; rintro e w1 ⟨rfl, hb1⟩
    go_wp2_with fail
    refine (K2.out w1 hb1).mono ?_; rintro e w2 ⟨⟨v, v2, rfl, ho, _⟩, hb2⟩
    have HO := Lib.hid ho
    clear ho
    go_wp2_with fail
    go_ret2
    exact retL_up hb1 (retL_own HO.out hb2)
  · have hgf := difB_false hg
    rw [hgf] at K ⊢
    clear hgf hg hR
    go_enter Try.func33, Try.ntmps33
    go_wp2_with fail
    refine K.out.mono ?_; rintro e w1 ⟨rfl, hb1⟩
    go_wp2_with fail
    go_ret2
    exact retL_nil hb1
theorem implPegsOfBand_any (A : Option Addr) (c : Nat) (l : List (Int × Int)) (w : World) (hn : l.length ≤ 1048576) (hcap : l.length ≤ c) (hc2 : c ≤ 9223372036854775807) (hR : Rd w w.heap.size A l) :
    Calls Try.prog 34 #[.slice A l.length c] w (RetL w (sel (difB l) (onL l)) (difB l)) := by
  have K := Lib.hid (implBandOf_any A c l w hn hcap hc2 hR)
  by_cases hg : Dif l
  · have hgt := difB_true hg
    rw [hgt] at K ⊢
    have K1 : Hid (Calls Try.prog 21 #[.slice A l.length c] w (RetL w (band l) true)) := Lib.hid K.out
    have hn30 := hg.few
    have hpos := band_pos hg
    have K2 := Lib.hid (fun W (hb : Below w.heap.size w W) => inOrder_any A c l.length l W rfl (by omega) (by omega) (dif_nodup hg) (rd_more (rd_below hR hb (Nat.le_refl _)) hb.size))
    have K3 := Lib.hid (fun g cap X cX W (h : Rd W W.heap.size (some ⟨g, 0, none⟩) (srt l)) (h' : Rd W W.heap.size X (band l)) => (pegsAt_any (some ⟨g, 0, none⟩) cap l.length (srt l) X cX (band l).length (band l) 0 W (srt_len l) (by omega) (fun x hx => dif_pegs hg x (srt_mem.1 hx)) h rfl hpos (band_few hg) (band_pegs hg) h').mono fun e w' hh => (show (∃ v, e = .returned v ∧ w'.ownsRow W.heap.size 38 2 v (onL l).length (flat (onL l))) ∧ Below W.heap.size W w' from by rw [filter_at_zero] at hh; exact hh))
    have hsl := srt_len l
    clear hgt hg hR K
    show Calls _ _ _ _ (RetL w (onL l) true)
    generalize onL l = res at *
    generalize band l = m at *
    generalize srt l = s at *
    go_enter Try.func34, Try.ntmps34
    go_wp2_with fail
    refine K1.out.mono ?_; rintro e w1 ⟨X, cX, rfl, q1, q2, hb1, q3⟩
    have HRH := Lib.hid (rd_more (rw_rd q3) (Nat.le_refl _))
    clear q3
    go_wp2_with fail
    refine (K2.out w1 hb1).mono ?_; rintro e w2 ⟨⟨g, cap, rfl, ho⟩, hb2⟩
    rw [← hsl] at ho
    obtain ⟨g2, cap2, hv, _, _, hRs⟩ := rd_own ho (by omega)
    injection hv with hv1 hv2 hv3
    subst hv3
    injection hv1 with hv1
    injection hv1 with hv1
    subst hv1
    have HRS := Lib.hid hRs
    have HRH2 := Lib.hid (rd_more (rd_below HRH.out hb2 (Nat.le_refl _)) hb2.size)
    have B2 := hb1.trans (hb2.mono hb1.size)
    clear ho hRs HRH hb2
    go_wp2_with fail
    refine (K3.out g cap X cX w2 HRS.out HRH2.out).mono ?_; rintro e w3 ⟨⟨v, rfl, ho⟩, hb3⟩
    have HO := Lib.hid ho
    clear ho
    go_wp2_with fail
    go_ret2
    exact retL_up B2 (retL_own HO.out hb3)
  · have hgf := difB_false hg
    rw [hgf] at K ⊢
    have K1 : Hid (Calls Try.prog 21 #[.slice A l.length c] w (RetL w [] false)) := Lib.hid K.out
    clear hgf hg hR K
    show Calls _ _ _ _ (RetL w [] false)
    go_enter Try.func34, Try.ntmps34
    go_wp2_with fail
    refine K1.out.mono ?_; rintro e w1 ⟨X, cX, rfl, q1, q2, hb1, q3⟩
    clear q3
    go_wp2_with fail
    go_ret2
    exact retL_nil hb1
theorem layersOf_true (A : Option Addr) (c : Nat) (l : List (Int × Int)) (w : World) (hn : l.length ≤ 1048576) (hcap : l.length ≤ c) (hc2 : c ≤ 9223372036854775807) (hd : Dif l) (hR : Rd w w.heap.size A l) :
    Calls Try.prog 40 #[.slice A l.length c] w (RetLL w (layers l) true) :=
  layersOf_yes A c l w hn hcap hc2 hd hR (fun W hb => inOrder_any A c l.length l W rfl hd.few.1 (by have := hd.few; omega) (dif_nodup hd) (rd_more (rd_below hR hb (Nat.le_refl _)) hb.size))
theorem layersOf_false (A : Option Addr) (c : Nat) (l : List (Int × Int)) (w : World) (hn : l.length ≤ 1048576) (hcap : l.length ≤ c) (hc2 : c ≤ 9223372036854775807) (hd : ¬ Dif l) (hR : Rd w w.heap.size A l) :
    Calls Try.prog 40 #[.slice A l.length c] w fun e w' => e = .returned (.tuple #[.slice none 0 0, .bool false]) ∧ Below w.heap.size w w' := by
  have K := Lib.hid (implAreDifferent_any A c l w hn hcap hc2 hR)
  rw [difB_false hd] at K
  clear hR hd
  go_enter Try.func40, Try.ntmps40
  go_wp2_with fail
  refine K.out.mono ?_; rintro e w1 ⟨rfl, hb1⟩
  go_wp2_with fail
  go_ret2
  exact ⟨rfl, hb1⟩
theorem implLayerOfPeg_any (A : Option Addr) (c : Nat) (l : List (Int × Int)) (p1 p2 : Int) (w : World) (hn : l.length ≤ 1048576) (hcap : l.length ≤ c) (hc2 : c ≤ 9223372036854775807) (hR : Rd w w.heap.size A l) :
    Calls Try.prog 45 #[.slice A l.length c, .agg #[.int .i64 p1, .int .i64 p2]] w fun e w' => e = .returned (.tuple #[.int .i64 (lvI l p1 p2), .bool (lvB l p1 p2)]) ∧ Below w.heap.size w w' := by
  by_cases hd : Dif l
  · exact implLayerOfPeg_yes A c l p1 p2 w hd (fun W hb => layersOf_true A c l W hn hcap hc2 hd (rd_more (rd_below hR hb (Nat.le_refl _)) hb.size))
  · exact implLayerOfPeg_no A c l p1 p2 w hd (fun W hb => layersOf_false A c l W hn hcap hc2 hd (rd_more (rd_below hR hb (Nat.le_refl _)) hb.size))
end Go.Proofs.Ythpbnfmfedggjaa
/- lists of lists of points in memory that the call itself made: held against each other, marked, held against the marks -/
namespace Go.Proofs.Ythpbnfmfedggjaa
open Go.ChangeShapes Go.WideShapes Go.ChangeAt Go.RowKit Go.Joins
set_option linter.unusedVariables false
set_option linter.unusedSimpArgs false
set_option maxRecDepth 4000
def sumN (m : Nat → Nat) : Nat → Nat
  | 0 => 0
  | i + 1 => sumN m i + m i
theorem sumN_le (m : Nat → Nat) {i n : Nat} (h : i ≤ n) : sumN m i ≤ sumN m n := by
  induction n with
  | zero => have : i = 0 := by omega
            subst this; exact Nat.le_refl _
  | succ n ih =>
    by_cases hi : i = n + 1
    · rw [hi]; exact Nat.le_refl _
    · have := ih (by omega)
      show sumN m i ≤ sumN m n + m n
      omega
/-- row number i lies in block q i -/
def RowQ (w : World) (lo B b off n : Nat) (q : Nat → Nat) (m : Nat → Nat) (f : Nat → Nat → Int × Int) : Prop :=
  ∀ i, i < n → (lo ≤ q i ∧ q i < B ∧ q i ≠ b ∧ ∀ j, j < i → q j ≠ q i) ∧ ∃ Ai ci, w.cell? ⟨b, off + i, none⟩ = some (.slice Ai (m i) ci) ∧ Rw w (q i) (q i + 1) Ai (m i) (f i)
def RwQ (w : World) (lo B : Nat) (A : Option Addr) (n : Nat) (m : Nat → Nat) (f : Nat → Nat → Int × Int) : Prop :=
  0 < n → ∃ b off q, A = some ⟨b, off, none⟩ ∧ lo ≤ b ∧ b < B ∧ RowQ w lo B b off n q m f
theorem rowq_block {w w' : World} {lo B b off n : Nat} {q m : Nat → Nat} {f : Nat → Nat → Int × Int} (h : RowQ w lo B b off n q m f) (hb1 : lo ≤ b) (hb2 : b < B) (hk : ∀ k, lo ≤ k → k < B → w'.heap[k]? = w.heap[k]?) : RowQ w' lo B b off n q m f := by
  intro i hi
  obtain ⟨h1, Ai, ci, h2, h3⟩ := h i hi
  exact ⟨h1, Ai, ci, (World.cell?_of_block (hk b hb1 hb2)).trans h2, rw_block h3 fun k k1 k2 => hk k (by omega) (by omega)⟩
theorem rwq_block {w w' : World} {lo B : Nat} {A : Option Addr} {n : Nat} {m : Nat → Nat} {f : Nat → Nat → Int × Int} (h : RwQ w lo B A n m f) (hk : ∀ k, lo ≤ k → k < B → w'.heap[k]? = w.heap[k]?) : RwQ w' lo B A n m f := by
  intro hn
  obtain ⟨b, off, q, e, h1, h2, h3⟩ := h hn
  exact ⟨b, off, q, e, h1, h2, rowq_block h3 h1 h2 hk⟩
theorem rwq_below {w w' : World} {lo B B' : Nat} {A : Option Addr} {n : Nat} {m : Nat → Nat} {f : Nat → Nat → Int × Int} (h : RwQ w lo B A n m f) (hb : Below B' w w') (hB : B ≤ B') : RwQ w' lo B A n m f :=
  rwq_block h fun k _ h2 => hb.block k (by omega)
theorem rwq_only {w w' : World} {lo B lo' B' : Nat} {A : Option Addr} {n : Nat} {m : Nat → Nat} {f : Nat → Nat → Int × Int} (h : RwQ w lo B A n m f) (ho : Only lo' B' w w') (hd : B ≤ lo' ∨ B' ≤ lo) : RwQ w' lo B A n m f :=
  rwq_block h fun k h1 h2 => ho.block k (by omega)
theorem rwq_more {w : World} {lo B lo' B' : Nat} {A : Option Addr} {n : Nat} {m : Nat → Nat} {f : Nat → Nat → Int × Int} (h : RwQ w lo B A n m f) (h1 : lo' ≤ lo) (h2 : B ≤ B') : RwQ w lo' B' A n m f := by
  intro hn
  obtain ⟨b, off, q, e, hb1, hb2, h3⟩ := h hn
  exact ⟨b, off, q, e, by omega, by omega, fun i hi => by
    obtain ⟨⟨k1, k2, k3⟩, k4⟩ := h3 i hi
    exact ⟨⟨by omega, by omega, k3⟩, k4⟩⟩
theorem bq_keep {w W W' : World} (h : Below w.heap.size w W) (hb : Below W.heap.size W W') : Below w.heap.size w W' := h.trans (hb.mono h.size)
theorem eqPegQ_same (A A' : Option Addr) (c c' n : Nat) (lo B lo' B' : Nat) (f : Nat → Int × Int) (w : World) (hn : n ≤ 1048576) (hR : Rw w lo B A n f) (hB : B ≤ w.heap.size) (hR' : Rw w lo' B' A' n f) (hB' : B' ≤ w.heap.size) :
    Calls Try.prog 19 #[.slice A n c, .slice A' n c'] w fun e w' => e = .returned (.bool true) ∧ Below w.heap.size w w' := by
  have h := law_eq (firsts f n) (by rw [firsts_len]; exact hn) w lo B lo' B' c c' A A'
  rw [firsts_len] at h
  exact h (rw_same hR fun i hi => (firsts_pt f n i hi).symm) hB (rw_same hR' fun i hi => (firsts_pt f n i hi).symm) hB'
set_option maxHeartbeats 1000000 in
theorem eqPegSS_same (A A' : Option Addr) (c c' n : Nat) (m : Nat → Nat) (lo B lo' B' : Nat) (f : Nat → Nat → Int × Int) (w : World) (hn : n ≤ 1048576) (hm : sumN m n ≤ 1048576) (hR : RwQ w lo B A n m f) (hB : B ≤ w.heap.size) (hR' : RwQ w lo' B' A' n m f) (hB' : B' ≤ w.heap.size) :
    Calls Try.prog 41 #[.slice A n c, .slice A' n c'] w fun e w' => e = .returned (.bool true) ∧ Below w.heap.size w w' := by
  have HR := Lib.hid hR
  have HR' := Lib.hid hR'
  have HM := Lib.hid hm
  clear hR hR' hm
  go_enter Try.func41, Try.ntmps41
  go_wp2_with fail
  go_loopg [5] n (fun g i wr => ∃ j : Nat, j ≤ n ∧ g = n - j ∧ i = .int .i64 j ∧ Below w.heap.size w wr)
  case atStart => exact ⟨0, Nat.zero_le _, rfl, rfl, Below.refl _ _⟩
  case round =>
    obtain ⟨j, hj, hg, rfl, hBl⟩ := hrel
    rename World => wo
    have HGK := Lib.hid hg
    clear hg
    by_cases hlt : j < n
    · obtain ⟨b, off, q, hA, hb1, hb2, hc⟩ := HR.out (by omega)
      obtain ⟨b', off', q', hA', hb1', hb2', hc'⟩ := HR'.out (by omega)
      subst hA hA'
      obtain ⟨⟨u1, u2, _⟩, Aj, cj, d1, r1⟩ := hc j hlt
      obtain ⟨⟨u3, u4, _⟩, Aj', cj', d2, r2⟩ := hc' j hlt
      have e1 : wo.cell? ⟨b, off + j, none⟩ = some (.slice Aj (m j) cj) := (hBl.cell (p := ⟨b, off + j, none⟩) (by show b < w.heap.size; omega)).trans d1
      have e2 : wo.cell? ⟨b', off' + j, none⟩ = some (.slice Aj' (m j) cj') := (hBl.cell (p := ⟨b', off' + j, none⟩) (by show b' < w.heap.size; omega)).trans d2
      have z3 : b < wo.heap.size := by have := hBl.size; omega
      have z4 : b' < wo.heap.size := by have := hBl.size; omega
      have mj : m j ≤ 1048576 := by
        have h1 := sumN_le m (i := j + 1) (n := n) (by omega)
        have h2 : sumN m (j + 1) = sumN m j + m j := rfl
        have := HM.out
        omega
      have KE := Lib.hid (fun W (hW : Below wo.heap.size wo W) => eqPegQ_same Aj Aj' cj cj' (m j) (q j) (q j + 1) (q' j) (q' j + 1) (f j) W mj (rw_below (rw_below r1 hBl (by omega)) hW (by have := hBl.size; omega)) (by have := hBl.size; have := hW.size; omega) (rw_below (rw_below r2 hBl (by omega)) hW (by have := hBl.size; omega)) (by have := hBl.size; have := hW.size; omega))
      have zz := hBl.size
      clear hc hc' d1 d2 r1 r2
      generalize m j = mj' at *
      go_wp2_with fail
      refine wp_region_B (fun W => Below wo.heap.size wo W) (by kernel_rfl) (Below.refl _ _).drew ?_
      first | refine wpB_skip 0 rfl (by kernel_rfl) (by kernel_rfl) (by kernel_rfl) (by rfl) ?_ | (refine wpB_text 0 (v := ?_) rfl (by kernel_rfl) (by kernel_rfl) (by kernel_rfl) (by rfl) (fun W hW => ?_) ?_; rotate_left; (have k1 := hW; obtain ⟨hc1, hf1⟩ := bcell k1; go_simp; refine comes_v ?_; exact k1))
      (try simp only [Act.put, List.setIfInBounds_toArray, List.set_cons_zero, List.set_cons_succ])
      first | refine wpB_skip 1 rfl (by kernel_rfl) (by kernel_rfl) (by kernel_rfl) (by rfl) ?_ | (refine wpB_text 1 (v := ?_) rfl (by kernel_rfl) (by kernel_rfl) (by kernel_rfl) (by rfl) (fun W hW => ?_) ?_; rotate_left; (have k1 := hW; obtain ⟨hc1, hf1⟩ := bcell k1; go_simp; refine comes_v ?_; exact k1))
      (try simp only [Act.put, List.setIfInBounds_toArray, List.set_cons_zero, List.set_cons_succ])
      first | refine wpB_skip 2 rfl (by kernel_rfl) (by kernel_rfl) (by kernel_rfl) (by rfl) ?_ | (refine wpB_text 2 (v := ?_) rfl (by kernel_rfl) (by kernel_rfl) (by kernel_rfl) (by rfl) (fun W hW => ?_) ?_; rotate_left; (have k1 := hW; obtain ⟨hc1, hf1⟩ := bcell k1; go_simp; refine comes_v ?_; exact k1))
      (try simp only [Act.put, List.setIfInBounds_toArray, List.set_cons_zero, List.set_cons_succ])
      first | refine wpB_skip 3 rfl (by kernel_rfl) (by kernel_rfl) (by kernel_rfl) (by rfl) ?_ | (refine wpB_text 3 (v := ?_) rfl (by kernel_rfl) (by kernel_rfl) (by kernel_rfl) (by rfl) (fun W hW => ?_) ?_; rotate_left; (have k1 := hW; obtain ⟨hc1, hf1⟩ := bcell k1; go_simp; refine comes_v ?_; exact k1))
      (try simp only [Act.put, List.setIfInBounds_toArray, List.set_cons_zero, List.set_cons_succ])
      first | refine wpB_skip 4 rfl (by kernel_rfl) (by kernel_rfl) (by kernel_rfl) (by rfl) ?_ | (refine wpB_text 4 (v := ?_) rfl (by kernel_rfl) (by kernel_rfl) (by kernel_rfl) (by rfl) (fun W hW => ?_) ?_; rotate_left; (have k1 := hW; obtain ⟨hc1, hf1⟩ := bcell k1; go_simp; refine comes_v ?_; exact k1))
      (try simp only [Act.put, List.setIfInBounds_toArray, List.set_cons_zero, List.set_cons_succ])
      first | refine wpB_skip 5 rfl (by kernel_rfl) (by kernel_rfl) (by kernel_rfl) (by rfl) ?_ | (refine wpB_text 5 (v := ?_) rfl (by kernel_rfl) (by kernel_rfl) (by kernel_rfl) (by rfl) (fun W hW => ?_) ?_; rotate_left; (have k1 := hW; obtain ⟨hc1, hf1⟩ := bcell k1; go_simp; refine comes_v ?_; exact k1))
      (try simp only [Act.put, List.setIfInBounds_toArray, List.set_cons_zero, List.set_cons_succ])
      first | refine wpB_skip 6 rfl (by kernel_rfl) (by kernel_rfl) (by kernel_rfl) (by rfl) ?_ | (refine wpB_text 6 (v := ?_) rfl (by kernel_rfl) (by kernel_rfl) (by kernel_rfl) (by rfl) (fun W hW => ?_) ?_; rotate_left; (have k1 := hW; obtain ⟨hc1, hf1⟩ := bcell k1; go_simp; refine comes_v ?_; exact k1))
      (try simp only [Act.put, List.setIfInBounds_toArray, List.set_cons_zero, List.set_cons_succ])
      first | refine wpB_skip 7 rfl (by kernel_rfl) (by kernel_rfl) (by kernel_rfl) (by rfl) ?_ | (refine wpB_text 7 (v := ?_) rfl (by kernel_rfl) (by kernel_rfl) (by kernel_rfl) (by rfl) (fun W hW => ?_) ?_; rotate_left; (have k1 := hW; obtain ⟨hc1, hf1⟩ := bcell k1; go_simp; refine comes_v ?_; exact k1))
      (try simp only [Act.put, List.setIfInBounds_toArray, List.set_cons_zero, List.set_cons_succ])
      first | refine wpB_skip 8 rfl (by kernel_rfl) (by kernel_rfl) (by kernel_rfl) (by rfl) ?_ | (refine wpB_text 8 (v := .bool true) rfl (by kernel_rfl) (by kernel_rfl) (by kernel_rfl) (by rfl) (fun W hW => ?_) ?_; (have k1 := hW; obtain ⟨hc1, hf1⟩ := bcell k1; go_simp; exact comes_c ( KE.out _ k1) (fun wn hbn => bq_keep k1 hbn)))
      (try simp only [Act.put, List.setIfInBounds_toArray, List.set_cons_zero, List.set_cons_succ])
      first | refine wpB_skip 9 rfl (by kernel_rfl) (by kernel_rfl) (by kernel_rfl) (by rfl) ?_ | (refine wpB_text 9 (v := ?_) rfl (by kernel_rfl) (by kernel_rfl) (by kernel_rfl) (by rfl) (fun W hW => ?_) ?_; rotate_left; (have k1 := hW; obtain ⟨hc1, hf1⟩ := bcell k1; go_simp; refine comes_v ?_; exact k1))
      (try simp only [Act.put, List.setIfInBounds_toArray, List.set_cons_zero, List.set_cons_succ])
      refine wpB_done (by kernel_rfl) ?_ _
      intro W hW; have k1 := hW
      have B2 := hBl.trans (k1.mono hBl.size)
      go_wp2_with fail
      go_roundg (n - (j + 1))
      case measure => have := HGK.out; omega
      case rel => exact ⟨j + 1, by omega, rfl, by go_num, B2⟩
    · have hjn : n = j := by omega
      subst hjn
      go_wp2_with fail
      go_ret
      exact ⟨rfl, hBl⟩
theorem only_trans {lo B : Nat} {w W W' : World} (h : Only lo B w W) (h' : Only lo B W W') : Only lo B w W' :=
  ⟨h'.os.trans h.os, h'.tape.trans h.tape, h'.output.trans h.output, h'.size.trans h.size, fun k hk => (h'.block k hk).trans (h.block k hk)⟩
/-- the marks of the first j rows, the numbers of the others -/
def mixQ (k : Int) (m : Nat → Nat) (j : Nat) (f : Nat → Nat → Int × Int) (i t : Nat) : Int × Int := if i < j then mk (k + 2 * (sumN m i : Int)) t else f i t
theorem markq_row {w W W' : World} {lo B b off n j : Nat} {q m : Nat → Nat} {f : Nat → Nat → Int × Int} {k : Int} {Aj : Option Addr} {cj : Nat} (hb1 : lo ≤ b) (hb2 : b < B) (ho0 : Only lo B w W) (h : RowQ W lo B b off n q m (mixQ k m j f)) (hj : j < n)
    (hc : W.cell? ⟨b, off + j, none⟩ = some (.slice Aj (m j) cj)) (ho : Only (q j) (q j + 1) W W') (hr : Rw W' (q j) (q j + 1) Aj (m j) (mk (k + 2 * (sumN m j : Int)))) :
    Only lo B w W' ∧ RowQ W' lo B b off n q m (mixQ k m (j + 1) f) := by
  obtain ⟨⟨v1, v2, v3, v4⟩, _⟩ := h j hj
  have hbb : W'.heap[b]? = W.heap[b]? := ho.block b (by omega)
  refine ⟨only_trans ho0 (ho.more v1 (by omega)), fun i hi => ?_⟩
  obtain ⟨hq, Ai, ci, h2, h3⟩ := h i hi
  by_cases hij : i = j
  · subst hij
    rw [hc] at h2
    injection h2 with h2
    injection h2 with e1 e2 e3
    subst e1 e3
    refine ⟨hq, Aj, cj, (World.cell?_of_block hbb).trans hc, rw_same hr fun t ht => ?_⟩
    unfold mixQ
    rw [if_pos (by omega)]
  · have hd : q i ≠ q j := by
      rcases Nat.lt_or_ge i j with h0 | h0
      · exact v4 i h0
      · exact fun e => hq.2.2.2 j (by omega) e.symm
    refine ⟨hq, Ai, ci, (World.cell?_of_block hbb).trans h2, rw_same (rw_only h3 ho (by omega)) fun t ht => ?_⟩
    unfold mixQ
    by_cases h1 : i < j
    · rw [if_pos h1, if_pos (by omega)]
    · rw [if_neg h1, if_neg (by omega)]
set_option maxHeartbeats 1000000 in
theorem markPegSS_any (A : Option Addr) (c n : Nat) (m : Nat → Nat) (k : Int) (lo B : Nat) (f : Nat → Nat → Int × Int) (w : World) (hn : n ≤ 1048576) (hm : sumN m n ≤ 1048576) (hk1 : 1 ≤ k) (hk2 : k ≤ 10000000) (hR : RwQ w lo B A n m f) :
    Calls Try.prog 42 #[.slice A n c, .int .i64 k] w fun e w' => e = .returned (.int .i64 (k + 2 * (sumN m n : Int))) ∧ Only lo B w w' ∧ RwQ w' lo B A n m (fun i t => mk (k + 2 * (sumN m i : Int)) t) := by
  by_cases hn0 : n = 0
  · subst hn0
    clear hR
    go_enter Try.func42, Try.ntmps42
    go_wp2_with fail
    go_loopg [1, 5] 0 (fun g u i wr => i = .int .i64 0 ∧ u = .int .i64 k ∧ wr = w)
    case atStart => exact ⟨rfl, rfl, rfl⟩
    case round =>
      obtain ⟨rfl, rfl, rfl⟩ := hrel
      go_wp2_with fail
      go_ret
      exact ⟨ret_int (by show k = k + 2 * ((0 : Nat) : Int); omega), Only.refl _ _ _, fun h => absurd h (by omega)⟩
  obtain ⟨b, off, q, rfl, hb1, hb2, hr⟩ := hR (by omega)
  have HS := Lib.hid (show RowQ w lo B b off n q m (mixQ k m 0 f) from fun i hi => by
    obtain ⟨h1, Ai, ci, h2, h3⟩ := hr i hi
    exact ⟨h1, Ai, ci, h2, rw_same h3 fun t ht => by unfold mixQ; rw [if_neg (by omega)]⟩)
  have HM := Lib.hid hm
  clear hR hr hm
  go_enter Try.func42, Try.ntmps42
  go_wp2_with fail
  go_loopg [1, 5] n (fun g u i wr => ∃ j : Nat, j ≤ n ∧ g = n - j ∧ i = .int .i64 j ∧ u = .int .i64 (k + 2 * (sumN m j : Int)) ∧ Hid (Only lo B w wr ∧ RowQ wr lo B b off n q m (mixQ k m j f)))
  case atStart => exact ⟨0, Nat.zero_le _, rfl, rfl, by rw [show k + 2 * ((sumN m 0 : Nat) : Int) = k by show k + 2 * ((0 : Nat) : Int) = k; omega], Lib.hid ⟨Only.refl _ _ _, HS.out⟩⟩
  case round =>
    obtain ⟨j, hj, hg, rfl, rfl, hM⟩ := hrel
    rename World => wo
    have HGK := Lib.hid hg
    clear hg HS
    by_cases hlt : j < n
    · obtain ⟨_, Aj, cj, c1, r1⟩ := hM.out.2 j hlt
      have hs1 := sumN_le m (i := j + 1) (n := n) (by omega)
      have hs2 : sumN m (j + 1) = sumN m j + m j := rfl
      have hs3 := HM.out
      have KM := Lib.hid (markPegS_any Aj cj (m j) (k + 2 * (sumN m j : Int)) (q j) (q j + 1) _ wo (by omega) (by omega) (by omega) r1)
      have C1 := Lib.hid c1
      have E2 : Hid (k + 2 * (sumN m j : Int) + 2 * (m j : Int) = k + 2 * (sumN m (j + 1) : Int)) := Lib.hid (by rw [hs2]; omega)
      clear r1 hs1 hs2 hs3
      generalize hmj : m j = mj at *
      generalize hsj : sumN m j = sj at *
      have HE := Lib.hid (And.intro hmj hsj)
      clear hmj hsj
      go_wp2_with fail
      refine KM.out.mono ?_; rintro e w2 ⟨rfl, ho, hr2⟩
      have S2 := Lib.hid (by
        obtain ⟨h1, h2⟩ := HE.out
        subst h1 h2
        exact markq_row hb1 hb2 hM.out.1 hM.out.2 hlt C1.out ho hr2)
      clear ho hr2 c1
      go_wp2_with fail
      go_roundg (n - (j + 1))
      case measure => have := HGK.out; omega
      case rel => exact ⟨j + 1, by omega, rfl, by go_num, by rw [← E2.out], S2⟩
    · have hjn : n = j := by omega
      subst hjn
      go_wp2_with fail
      go_ret
      refine ⟨rfl, hM.out.1, fun _ => ⟨b, off, q, rfl, hb1, hb2, fun i hi => ?_⟩⟩
      obtain ⟨h1, Ai, ci, h2, h3⟩ := hM.out.2 i hi
      exact ⟨h1, Ai, ci, h2, rw_same h3 fun t ht => by unfold mixQ; rw [if_pos hi]⟩
set_option maxHeartbeats 1000000 in
theorem heldPegSS_any (A : Option Addr) (c n : Nat) (m : Nat → Nat) (k : Int) (lo B : Nat) (w : World) (hn : n ≤ 1048576) (hm : sumN m n ≤ 1048576) (hk1 : 1 ≤ k) (hk2 : k ≤ 10000000) (hR : RwQ w lo B A n m (fun i t => mk (k + 2 * (sumN m i : Int)) t)) :
    Calls Try.prog 43 #[.slice A n c, .int .i64 k] w fun e w' => e = .returned (.int .i64 (k + 2 * (sumN m n : Int))) ∧ w = w' := by
  have HR := Lib.hid hR
  have HM := Lib.hid hm
  clear hR hm
  go_enter Try.func43, Try.ntmps43
  go_wp2_with fail
  go_loopg [1, 5] n (fun g u i wr => ∃ j : Nat, j ≤ n ∧ g = n - j ∧ i = .int .i64 j ∧ u = .int .i64 (k + 2 * (sumN m j : Int)) ∧ w = wr)
  case atStart => exact ⟨0, Nat.zero_le _, rfl, rfl, by rw [show k + 2 * ((sumN m 0 : Nat) : Int) = k by show k + 2 * ((0 : Nat) : Int) = k; omega], rfl⟩
  case round =>
    obtain ⟨j, hj, hg, rfl, rfl, rfl⟩ := hrel
    have HGK := Lib.hid hg
    clear hg
    by_cases hlt : j < n
    · obtain ⟨b, off, q, hA, hb1, hb2, hr⟩ := HR.out (by omega)
      subst hA
      obtain ⟨_, Aj, cj, c1, r1⟩ := hr j hlt
      have hs1 := sumN_le m (i := j + 1) (n := n) (by omega)
      have hs2 : sumN m (j + 1) = sumN m j + m j := rfl
      have hs3 := HM.out
      have KM := Lib.hid (heldPegS_any Aj cj (m j) (k + 2 * (sumN m j : Int)) (q j) (q j + 1) w (by omega) (by omega) (by omega) r1)
      have E2 : Hid (k + 2 * (sumN m j : Int) + 2 * (m j : Int) = k + 2 * (sumN m (j + 1) : Int)) := Lib.hid (by rw [hs2]; omega)
      have P2 : ¬ (k + 2 * (sumN m j : Int) + 2 * (m j : Int) < 0) := by omega
      clear r1 hs1 hs2 hs3 hr
      generalize m j = mj at *
      generalize sumN m j = sj at *
      go_wp2_with fail
      refine KM.out.mono ?_; rintro e _ ⟨rfl, rfl⟩
      go_wp2_with fail
      go_roundg (n - (j + 1))
      case measure => have := HGK.out; omega
      case rel => exact ⟨j + 1, by omega, rfl, by go_num, by rw [← E2.out], rfl⟩
    · have hjn : n = j := by omega
      subst hjn
      go_wp2_with fail
      go_ret
      exact ⟨rfl, rfl⟩
theorem rw_narrow {w : World} {lo B g n : Nat} {f : Nat → Int × Int} (h : Rw w lo B (some ⟨g, 0, none⟩) n f) : Rw w g (g + 1) (some ⟨g, 0, none⟩) n f := by
  intro hn
  obtain ⟨b, off, e, h1, h2, h3⟩ := h hn
  injection e with e
  injection e with e1 e2
  subst e1 e2
  exact ⟨g, 0, rfl, Nat.le_refl _, Nat.lt_succ_self _, h3⟩
def lenL (LL : List (List (Int × Int))) (i : Nat) : Nat := ((LL[i]?).getD []).length
def ptL (LL : List (List (Int × Int))) (i : Nat) : Nat → Int × Int := pt ((LL[i]?).getD [])
end Go.Proofs.Ythpbnfmfedggjaa
/- contracts: LayersOf on both sides; lists of lists of points that a call gives -/
namespace Go.Proofs.Ythpbnfmfedggjaa
open Go.ChangeShapes Go.WideShapes Go.ChangeAt Go.RowKit Go.Joins
set_option linter.unusedVariables false
set_option linter.unusedSimpArgs false
set_option maxRecDepth 4000
def RetQ (w : World) (LL : List (List (Int × Int))) (b : Bool) (e : Ending) (w' : World) : Prop :=
  ∃ A c, e = .returned (.tuple #[.slice A LL.length c, .bool b]) ∧ Below w.heap.size w w' ∧ RwQ w' w.heap.size w'.heap.size A LL.length (lenL LL) (ptL LL)
theorem rwq_of_rows {w : World} {base g n cap : Nat} {LL : List (List (Int × Int))} {cs : List Value} (h : RowsL w base (.slice (some ⟨g, 0, none⟩) n cap) LL cs) (hn : LL.length = n) (hg : base ≤ g) (hne : ∀ m ∈ LL, 0 < m.length) : RwQ w base w.heap.size (some ⟨g, 0, none⟩) n (lenL LL) (ptL LL) := by
  intro _
  subst hn
  have hlen : cs.length = LL.length := by have := h.1.1; omega
  have row : ∀ i, i < LL.length → ∃ m gi ci, LL[i]? = some m ∧ cs[i]? = some (.slice (some ⟨gi, 0, none⟩) m.length ci) ∧ base ≤ gi ∧ gi < w.heap.size ∧ gi ≠ g ∧ Rw w gi (gi + 1) (some ⟨gi, 0, none⟩) m.length (pt m) := fun i hi => by
    obtain ⟨m, hm⟩ : ∃ m, LL[i]? = some m := ⟨_, List.getElem?_eq_getElem hi⟩
    obtain ⟨u, h1, h2⟩ := h.2.1 i m hm
    obtain ⟨gi, ci, rfl, _, _, _⟩ := rd_own h2 (hne m (List.mem_of_getElem? hm))
    obtain ⟨A, c, hv, _, _, hr⟩ := rw_of_own h2
    injection hv with hv1 hv2 hv3
    subst hv1
    have hlt := World.ownsRow.lt h2 gi rfl
    refine ⟨m, gi, ci, hm, h1, hlt.1, hlt.2, ?_, rw_narrow hr⟩
    rcases own_diff h2 h.1 (by decide) with e | e
    · simp [Value.ownBlock] at e
    · simp [Value.ownBlock] at e
      exact e
  refine ⟨g, 0, fun i => (((cs[i]?).getD (.slice none 0 0)).ownBlock).getD 0, rfl, hg, (World.ownsRow.lt h.1 g rfl).2, fun i hi => ?_⟩
  obtain ⟨m, gi, ci, hm, h1, b1, b2, b3, hr⟩ := row i hi
  have hq : (((cs[i]?).getD (.slice none 0 0)).ownBlock).getD 0 = gi := by rw [h1]; rfl
  refine ⟨⟨?_, ?_, ?_, fun j hj => ?_⟩, some ⟨gi, 0, none⟩, ci, ?_, ?_⟩
  · simp only [hq]; exact b1
  · simp only [hq]; exact b2
  · simp only [hq]; exact b3
  · simp only [hq]
    obtain ⟨m', gj, cj, hm', h1', _⟩ := row j (by omega)
    have hqj : (((cs[j]?).getD (.slice none 0 0)).ownBlock).getD 0 = gj := by rw [h1']; rfl
    rw [hqj]
    have hp := List.pairwise_iff_getElem.1 h.2.2 j i (by omega) (by omega) hj
    rw [List.getElem?_eq_getElem (by omega)] at h1 h1'
    injection h1 with h1
    injection h1' with h1'
    rw [h1, h1'] at hp
    have := hp gj gi rfl rfl
    omega
  · rw [Nat.zero_add, World.ownsRow.cellAt h.1 i (by omega), h1]
    unfold lenL
    rw [hm]
    rfl
  · simp only [hq]
    unfold lenL ptL
    rw [hm]
    exact hr
theorem retq_of_LL {w w' : World} {LL : List (List (Int × Int))} {b : Bool} {e : Ending} (h : RetLL w LL b e w') (hne : ∀ m ∈ LL, 0 < m.length) : RetQ w LL b e w' := by
  obtain ⟨⟨v, cs, rfl, hr⟩, hb⟩ := h
  rcases own_val hr.1 with ⟨rfl, h0⟩ | ⟨g, cap, rfl, h1, h2, h3, h4⟩
  · refine ⟨none, 0, by rw [h0], hb, fun hn => absurd hn (by omega)⟩
  · exact ⟨_, _, rfl, hb, rwq_of_rows hr rfl h3 hne⟩
theorem retq_nil {w w' : World} (hb : Below w.heap.size w w') : RetQ w [] false (.returned (.tuple #[.slice none 0 0, .bool false])) w' := ⟨none, 0, rfl, hb, fun hn => absurd hn (by simp)⟩
noncomputable def LLv (l : List (Int × Int)) : List (List (Int × Int)) := if difB l = true then layers l else []
theorem sumN_bd {m : Nat → Nat} {k : Nat} : ∀ n, (∀ i, i < n → m i ≤ k) → sumN m n ≤ k * n
  | 0, _ => Nat.zero_le _
  | n + 1, h => by
    have h1 := sumN_bd n (fun i hi => h i (by omega))
    have h2 := h n (by omega)
    show sumN m n + m n ≤ k * (n + 1)
    rw [Nat.mul_succ]
    omega
theorem LLv_few (l : List (Int × Int)) : (LLv l).length ≤ 30 ∧ ∀ i, lenL (LLv l) i ≤ 30 := by
  unfold LLv
  split
  · rename_i h
    have hd := (dif_of h).few
    refine ⟨Nat.le_trans (lay_few _ _) hd.2, fun i => ?_⟩
    unfold lenL
    cases hm : (layers l)[i]? with
    | none => simp
    | some m => exact Nat.le_trans (lay_len _ _ m (List.mem_of_getElem? hm)) hd.2
  · exact ⟨by simp, fun i => by simp [lenL]⟩
theorem LLv_len (l : List (Int × Int)) : (LLv l).length ≤ 1048576 := Nat.le_trans (LLv_few l).1 (by omega)
theorem LLv_sum (l : List (Int × Int)) : sumN (lenL (LLv l)) (LLv l).length ≤ 1048576 := by
  have h := LLv_few l
  have h2 := sumN_bd (m := lenL (LLv l)) (k := 30) (LLv l).length (fun i _ => h.2 i)
  have h3 := Nat.mul_le_mul_left 30 h.1
  omega
theorem implLayersOf_any (A : Option Addr) (c : Nat) (l : List (Int × Int)) (w : World) (hn : l.length ≤ 1048576) (hcap : l.length ≤ c) (hc2 : c ≤ 9223372036854775807) (hR : Rd w w.heap.size A l) :
    Calls Try.prog 40 #[.slice A l.length c] w (RetQ w (LLv l) (difB l)) := by
  unfold LLv
  by_cases hd : Dif l
  · rw [difB_true hd]
    exact (layersOf_true A c l w hn hcap hc2 hd hR).mono fun e w' h => retq_of_LL h (lay_ne _ _ (fun _ => hd))
  · rw [difB_false hd]
    refine (layersOf_false A c l w hn hcap hc2 hd hR).mono fun e w' h => ?_
    obtain ⟨rfl, hb⟩ := h
    exact retq_nil hb
theorem specLayersOf_any (A : Option Addr) (c : Nat) (l : List (Int × Int)) (w : World) (hn : l.length ≤ 1048576) (hcap : l.length ≤ c) (hc2 : c ≤ 9223372036854775807) (hR : Rd w w.heap.size A l) :
    Calls Try.prog 39 #[.slice A l.length c] w (RetQ w (LLv l) (difB l)) := by
  have K := Lib.hid (bdGood_any A c l w hn hcap hc2 hR)
  unfold LLv
  by_cases hd : Dif l
  · rw [difB_true hd] at K ⊢
    show Calls _ _ _ _ (RetQ w (layers l) true)
    have HQ := Lib.hid (fun w1 (hb1 : Below w.heap.size w w1) e w' (h : RetLL w1 (layers l) true e w') => (show RetQ w (layers l) true e w' from retq_of_LL ⟨by
      obtain ⟨⟨v, cs, he, hr⟩, _⟩ := h
      exact ⟨v, cs, he, rowsL_base hr hb1.size⟩, hb1.trans (h.2.mono hb1.size)⟩ (lay_ne _ _ (fun _ => hd))))
    have K2 := Lib.hid (fun W (hb : Below w.heap.size w W) => bdLayers_any A c l.length l W rfl hd (rd_more (rd_below hR hb (Nat.le_refl _)) hb.size))
    clear hd hR
    go_enter Try.func39, Try.ntmps39
    go_wp2_with fail
    refine K.out.mono ?_; rintro e w1 ⟨rfl, hb1⟩
    go_wp2_with fail
    refine (K2.out w1 hb1).mono ?_; rintro e w2 ⟨⟨v, cs, rfl, hr⟩, hb2⟩
    have HR := Lib.hid hr
    clear hr
    go_wp2_with fail
    go_ret2
    exact HQ.out w1 hb1 _ _ ⟨⟨v, cs, rfl, HR.out⟩, hb2⟩
  · rw [difB_false hd] at K ⊢
    show Calls _ _ _ _ (RetQ w [] false)
    clear hd hR
    go_enter Try.func39, Try.ntmps39
    go_wp2_with fail
    refine K.out.mono ?_; rintro e w1 ⟨rfl, hb1⟩
    go_wp2_with fail
    go_ret2
    exact retq_nil hb1
end Go.Proofs.Ythpbnfmfedggjaa
