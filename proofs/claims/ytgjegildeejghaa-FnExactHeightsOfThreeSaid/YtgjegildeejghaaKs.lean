/- lists of lists of numbers in memory that the call itself made: held against each other, marked, held against the marks -/
import Derived.Test.YtgjegildeejghaaKi
namespace Go.Proofs.Ytgjegildeejghaa
open Go.ChangeShapes Go.WideShapes Go.ChangeAt Go.RowKit Go.Joins
set_option linter.unusedVariables false
set_option linter.unusedSimpArgs false
set_option maxRecDepth 4000
def sumN (m : Nat → Nat) : Nat → Nat
  | 0 => 0
  | i + 1 => sumN m i + m i
theorem sumN_le (m : Nat → Nat) {i n : Nat} (h : i ≤ n) : sumN m i ≤ sumN m n := by
  induction n with
  | zero => have : i = 0 := by omega
            subst this; exact Nat.le_refl _
  | succ n ih =>
    by_cases hi : i = n + 1
    · rw [hi]; exact Nat.le_refl _
    · have := ih (by omega)
      show sumN m i ≤ sumN m n + m n
      omega
/-- row number i lies in block q i -/
def RowS (w : World) (lo B b off n : Nat) (q : Nat → Nat) (m : Nat → Nat) (f : Nat → Nat → Int) : Prop :=
  ∀ i, i < n → (lo ≤ q i ∧ q i < B ∧ q i ≠ b ∧ ∀ j, j < i → q j ≠ q i) ∧ ∃ Ai ci, w.cell? ⟨b, off + i, none⟩ = some (.slice Ai (m i) ci) ∧ RwI w (q i) (q i + 1) Ai (m i) (f i)
def RwS (w : World) (lo B : Nat) (A : Option Addr) (n : Nat) (m : Nat → Nat) (f : Nat → Nat → Int) : Prop :=
  0 < n → ∃ b off q, A = some ⟨b, off, none⟩ ∧ lo ≤ b ∧ b < B ∧ RowS w lo B b off n q m f
theorem rows_block {w w' : World} {lo B b off n : Nat} {q m : Nat → Nat} {f : Nat → Nat → Int} (h : RowS w lo B b off n q m f) (hb1 : lo ≤ b) (hb2 : b < B) (hk : ∀ k, lo ≤ k → k < B → w'.heap[k]? = w.heap[k]?) : RowS w' lo B b off n q m f := by
  intro i hi
  obtain ⟨h1, Ai, ci, h2, h3⟩ := h i hi
  exact ⟨h1, Ai, ci, (World.cell?_of_block (hk b hb1 hb2)).trans h2, rwi_block h3 fun k k1 k2 => hk k (by omega) (by omega)⟩
theorem rws_block {w w' : World} {lo B : Nat} {A : Option Addr} {n : Nat} {m : Nat → Nat} {f : Nat → Nat → Int} (h : RwS w lo B A n m f) (hk : ∀ k, lo ≤ k → k < B → w'.heap[k]? = w.heap[k]?) : RwS w' lo B A n m f := by
  intro hn
  obtain ⟨b, off, q, e, h1, h2, h3⟩ := h hn
  exact ⟨b, off, q, e, h1, h2, rows_block h3 h1 h2 hk⟩
theorem rws_below {w w' : World} {lo B B' : Nat} {A : Option Addr} {n : Nat} {m : Nat → Nat} {f : Nat → Nat → Int} (h : RwS w lo B A n m f) (hb : Below B' w w') (hB : B ≤ B') : RwS w' lo B A n m f :=
  rws_block h fun k _ h2 => hb.block k (by omega)
theorem rws_only {w w' : World} {lo B lo' B' : Nat} {A : Option Addr} {n : Nat} {m : Nat → Nat} {f : Nat → Nat → Int} (h : RwS w lo B A n m f) (ho : Only lo' B' w w') (hd : B ≤ lo' ∨ B' ≤ lo) : RwS w' lo B A n m f :=
  rws_block h fun k h1 h2 => ho.block k (by omega)
theorem rws_more {w : World} {lo B lo' B' : Nat} {A : Option Addr} {n : Nat} {m : Nat → Nat} {f : Nat → Nat → Int} (h : RwS w lo B A n m f) (h1 : lo' ≤ lo) (h2 : B ≤ B') : RwS w lo' B' A n m f := by
  intro hn
  obtain ⟨b, off, q, e, hb1, hb2, h3⟩ := h hn
  exact ⟨b, off, q, e, by omega, by omega, fun i hi => by
    obtain ⟨⟨k1, k2, k3⟩, k4⟩ := h3 i hi
    exact ⟨⟨by omega, by omega, k3⟩, k4⟩⟩
set_option maxHeartbeats 1000000 in
theorem eqIntSS_same (A A' : Option Addr) (c c' n : Nat) (m : Nat → Nat) (lo B lo' B' : Nat) (f : Nat → Nat → Int) (w : World) (hn : n ≤ 1048576) (hm : sumN m n ≤ 1048576) (hR : RwS w lo B A n m f) (hB : B ≤ w.heap.size) (hR' : RwS w lo' B' A' n m f) (hB' : B' ≤ w.heap.size) :
    Calls Try.prog 30 #[.slice A n c, .slice A' n c'] w fun e w' => e = .returned (.bool true) ∧ Below w.heap.size w w' := by
  have HR := Lib.hid hR
  have HR' := Lib.hid hR'
  have HM := Lib.hid hm
  clear hR hR' hm
  go_enter Try.func30, Try.ntmps30
  go_wp2_with fail
  go_loopg [5] n (fun g i wr => ∃ j : Nat, j ≤ n ∧ g = n - j ∧ i = .int .i64 j ∧ Below w.heap.size w wr)
  case atStart => exact ⟨0, Nat.zero_le _, rfl, rfl, Below.refl _ _⟩
  case round =>
    obtain ⟨j, hj, hg, rfl, hBl⟩ := hrel
    rename World => wo
    have HGK := Lib.hid hg
    clear hg
    by_cases hlt : j < n
    · obtain ⟨b, off, q, hA, hb1, hb2, hc⟩ := HR.out (by omega)
      obtain ⟨b', off', q', hA', hb1', hb2', hc'⟩ := HR'.out (by omega)
      subst hA hA'
      obtain ⟨⟨u1, u2, _⟩, Aj, cj, d1, r1⟩ := hc j hlt
      obtain ⟨⟨u3, u4, _⟩, Aj', cj', d2, r2⟩ := hc' j hlt
      have e1 : wo.cell? ⟨b, off + j, none⟩ = some (.slice Aj (m j) cj) := (hBl.cell (p := ⟨b, off + j, none⟩) (by show b < w.heap.size; omega)).trans d1
      have e2 : wo.cell? ⟨b', off' + j, none⟩ = some (.slice Aj' (m j) cj') := (hBl.cell (p := ⟨b', off' + j, none⟩) (by show b' < w.heap.size; omega)).trans d2
      have z3 : b < wo.heap.size := by have := hBl.size; omega
      have z4 : b' < wo.heap.size := by have := hBl.size; omega
      have mj : m j ≤ 1048576 := by
        have h1 := sumN_le m (i := j + 1) (n := n) (by omega)
        have h2 : sumN m (j + 1) = sumN m j + m j := rfl
        have := HM.out
        omega
      have KE := Lib.hid (fun W (hW : Below wo.heap.size wo W) => eqIntS_same Aj Aj' cj cj' (m j) (q j) (q j + 1) (q' j) (q' j + 1) (f j) W mj (rwi_below (rwi_below r1 hBl (by omega)) hW (by have := hBl.size; omega)) (by have := hBl.size; have := hW.size; omega) (rwi_below (rwi_below r2 hBl (by omega)) hW (by have := hBl.size; omega)) (by have := hBl.size; have := hW.size; omega))
      have zz := hBl.size
      clear hc hc' d1 d2 r1 r2
      generalize m j = mj' at *
      go_wp2_with fail
      refine wp_region_B (fun W => Below wo.heap.size wo W) (by kernel_rfl) (Below.refl _ _).drew ?_
      first | refine wpB_skip 0 rfl (by kernel_rfl) (by kernel_rfl) (by kernel_rfl) (by rfl) ?_ | (refine wpB_text 0 (v := ?_) rfl (by kernel_rfl) (by kernel_rfl) (by kernel_rfl) (by rfl) (fun W hW => ?_) ?_; rotate_left; (have k1 := hW; obtain ⟨hc1, hf1⟩ := bcell k1; go_simp; refine comes_v ?_; exact k1))
      (try simp only [Act.put, List.setIfInBounds_toArray, List.set_cons_zero, List.set_cons_succ])
      first | refine wpB_skip 1 rfl (by kernel_rfl) (by kernel_rfl) (by kernel_rfl) (by rfl) ?_ | (refine wpB_text 1 (v := ?_) rfl (by kernel_rfl) (by kernel_rfl) (by kernel_rfl) (by rfl) (fun W hW => ?_) ?_; rotate_left; (have k1 := hW; obtain ⟨hc1, hf1⟩ := bcell k1; go_simp; refine comes_v ?_; exact k1))
      (try simp only [Act.put, List.setIfInBounds_toArray, List.set_cons_zero, List.set_cons_succ])
      first | refine wpB_skip 2 rfl (by kernel_rfl) (by kernel_rfl) (by kernel_rfl) (by rfl) ?_ | (refine wpB_text 2 (v := ?_) rfl (by kernel_rfl) (by kernel_rfl) (by kernel_rfl) (by rfl) (fun W hW => ?_) ?_; rotate_left; (have k1 := hW; obtain ⟨hc1, hf1⟩ := bcell k1; go_simp; refine comes_v ?_; exact k1))
      (try simp only [Act.put, List.setIfInBounds_toArray, List.set_cons_zero, List.set_cons_succ])
      first | refine wpB_skip 3 rfl (by kernel_rfl) (by kernel_rfl) (by kernel_rfl) (by rfl) ?_ | (refine wpB_text 3 (v := ?_) rfl (by kernel_rfl) (by kernel_rfl) (by kernel_rfl) (by rfl) (fun W hW => ?_) ?_; rotate_left; (have k1 := hW; obtain ⟨hc1, hf1⟩ := bcell k1; go_simp; refine comes_v ?_; exact k1))
      (try simp only [Act.put, List.setIfInBounds_toArray, List.set_cons_zero, List.set_cons_succ])
      first | refine wpB_skip 4 rfl (by kernel_rfl) (by kernel_rfl) (by kernel_rfl) (by rfl) ?_ | (refine wpB_text 4 (v := ?_) rfl (by kernel_rfl) (by kernel_rfl) (by kernel_rfl) (by rfl) (fun W hW => ?_) ?_; rotate_left; (have k1 := hW; obtain ⟨hc1, hf1⟩ := bcell k1; go_simp; refine comes_v ?_; exact k1))
      (try simp only [Act.put, List.setIfInBounds_toArray, List.set_cons_zero, List.set_cons_succ])
      first | refine wpB_skip 5 rfl (by kernel_rfl) (by kernel_rfl) (by kernel_rfl) (by rfl) ?_ | (refine wpB_text 5 (v := ?_) rfl (by kernel_rfl) (by kernel_rfl) (by kernel_rfl) (by rfl) (fun W hW => ?_) ?_; rotate_left; (have k1 := hW; obtain ⟨hc1, hf1⟩ := bcell k1; go_simp; refine comes_v ?_; exact k1))
      (try simp only [Act.put, List.setIfInBounds_toArray, List.set_cons_zero, List.set_cons_succ])
      first | refine wpB_skip 6 rfl (by kernel_rfl) (by kernel_rfl) (by kernel_rfl) (by rfl) ?_ | (refine wpB_text 6 (v := ?_) rfl (by kernel_rfl) (by kernel_rfl) (by kernel_rfl) (by rfl) (fun W hW => ?_) ?_; rotate_left; (have k1 := hW; obtain ⟨hc1, hf1⟩ := bcell k1; go_simp; refine comes_v ?_; exact k1))
      (try simp only [Act.put, List.setIfInBounds_toArray, List.set_cons_zero, List.set_cons_succ])
      first | refine wpB_skip 7 rfl (by kernel_rfl) (by kernel_rfl) (by kernel_rfl) (by rfl) ?_ | (refine wpB_text 7 (v := ?_) rfl (by kernel_rfl) (by kernel_rfl) (by kernel_rfl) (by rfl) (fun W hW => ?_) ?_; rotate_left; (have k1 := hW; obtain ⟨hc1, hf1⟩ := bcell k1; go_simp; refine comes_v ?_; exact k1))
      (try simp only [Act.put, List.setIfInBounds_toArray, List.set_cons_zero, List.set_cons_succ])
      first | refine wpB_skip 8 rfl (by kernel_rfl) (by kernel_rfl) (by kernel_rfl) (by rfl) ?_ | (refine wpB_text 8 (v := .bool true) rfl (by kernel_rfl) (by kernel_rfl) (by kernel_rfl) (by rfl) (fun W hW => ?_) ?_; (have k1 := hW; obtain ⟨hc1, hf1⟩ := bcell k1; go_simp; exact comes_c ( KE.out _ k1) (fun wn hbn => bw_keep k1 hbn)))
      (try simp only [Act.put, List.setIfInBounds_toArray, List.set_cons_zero, List.set_cons_succ])
      first | refine wpB_skip 9 rfl (by kernel_rfl) (by kernel_rfl) (by kernel_rfl) (by rfl) ?_ | (refine wpB_text 9 (v := ?_) rfl (by kernel_rfl) (by kernel_rfl) (by kernel_rfl) (by rfl) (fun W hW => ?_) ?_; rotate_left; (have k1 := hW; obtain ⟨hc1, hf1⟩ := bcell k1; go_simp; refine comes_v ?_; exact k1))
      (try simp only [Act.put, List.setIfInBounds_toArray, List.set_cons_zero, List.set_cons_succ])
      refine wpB_done (by kernel_rfl) ?_ _
      intro W hW; have k1 := hW
      have B2 := hBl.trans (k1.mono hBl.size)
      go_wp2_with fail
      go_roundg (n - (j + 1))
      case measure => have := HGK.out; omega
      case rel => exact ⟨j + 1, by omega, rfl, by go_num, B2⟩
    · have hjn : n = j := by omega
      subst hjn
      go_wp2_with fail
      go_ret
      exact ⟨rfl, hBl⟩
theorem only_trans {lo B : Nat} {w W W' : World} (h : Only lo B w W) (h' : Only lo B W W') : Only lo B w W' :=
  ⟨h'.os.trans h.os, h'.tape.trans h.tape, h'.output.trans h.output, h'.size.trans h.size, fun k hk => (h'.block k hk).trans (h.block k hk)⟩
/-- the marks of the first j rows, the numbers of the others -/
def mixS (k : Int) (m : Nat → Nat) (j : Nat) (f : Nat → Nat → Int) (i t : Nat) : Int := if i < j then k + (sumN m i : Int) + (t : Int) else f i t
theorem mark_row {w W W' : World} {lo B b off n j : Nat} {q m : Nat → Nat} {f : Nat → Nat → Int} {k : Int} {Aj : Option Addr} {cj : Nat} (hb1 : lo ≤ b) (hb2 : b < B) (ho0 : Only lo B w W) (h : RowS W lo B b off n q m (mixS k m j f)) (hj : j < n)
    (hc : W.cell? ⟨b, off + j, none⟩ = some (.slice Aj (m j) cj)) (ho : Only (q j) (q j + 1) W W') (hr : RwI W' (q j) (q j + 1) Aj (m j) (fun t => k + (sumN m j : Int) + (t : Int))) :
    Only lo B w W' ∧ RowS W' lo B b off n q m (mixS k m (j + 1) f) := by
  obtain ⟨⟨v1, v2, v3, v4⟩, _⟩ := h j hj
  have hbb : W'.heap[b]? = W.heap[b]? := ho.block b (by omega)
  refine ⟨only_trans ho0 (ho.more v1 (by omega)), fun i hi => ?_⟩
  obtain ⟨hq, Ai, ci, h2, h3⟩ := h i hi
  by_cases hij : i = j
  · subst hij
    rw [hc] at h2
    injection h2 with h2
    injection h2 with e1 e2 e3
    subst e1 e3
    refine ⟨hq, Aj, cj, (World.cell?_of_block hbb).trans hc, rwi_same hr fun t ht => ?_⟩
    unfold mixS
    rw [if_pos (by omega)]
  · have hd : q i ≠ q j := by
      rcases Nat.lt_or_ge i j with h0 | h0
      · exact v4 i h0
      · exact fun e => hq.2.2.2 j (by omega) e.symm
    refine ⟨hq, Ai, ci, (World.cell?_of_block hbb).trans h2, rwi_same (rwi_only h3 ho (by omega)) fun t ht => ?_⟩
    unfold mixS
    by_cases h1 : i < j
    · rw [if_pos h1, if_pos (by omega)]
    · rw [if_neg h1, if_neg (by omega)]
set_option maxHeartbeats 1000000 in
theorem markIntSS_any (A : Option Addr) (c n : Nat) (m : Nat → Nat) (k : Int) (lo B : Nat) (f : Nat → Nat → Int) (w : World) (hn : n ≤ 1048576) (hm : sumN m n ≤ 1048576) (hk1 : 1 ≤ k) (hk2 : k ≤ 10000000) (hR : RwS w lo B A n m f) :
    Calls Try.prog 31 #[.slice A n c, .int .i64 k] w fun e w' => e = .returned (.int .i64 (k + (sumN m n : Int))) ∧ Only lo B w w' ∧ RwS w' lo B A n m (fun i t => k + (sumN m i : Int) + (t : Int)) := by
  by_cases hn0 : n = 0
  · subst hn0
    clear hR
    go_enter Try.func31, Try.ntmps31
    go_wp2_with fail
    go_loopg [1, 5] 0 (fun g u i wr => i = .int .i64 0 ∧ u = .int .i64 k ∧ wr = w)
    case atStart => exact ⟨rfl, rfl, rfl⟩
    case round =>
      obtain ⟨rfl, rfl, rfl⟩ := hrel
      go_wp2_with fail
      go_ret
      exact ⟨ret_int (by show k = k + ((0 : Nat) : Int); omega), Only.refl _ _ _, fun h => absurd h (by omega)⟩
  obtain ⟨b, off, q, rfl, hb1, hb2, hr⟩ := hR (by omega)
  have HS := Lib.hid (show RowS w lo B b off n q m (mixS k m 0 f) from fun i hi => by
    obtain ⟨h1, Ai, ci, h2, h3⟩ := hr i hi
    exact ⟨h1, Ai, ci, h2, rwi_same h3 fun t ht => by unfold mixS; rw [if_neg (by omega)]⟩)
  have HM := Lib.hid hm
  clear hR hr hm
  go_enter Try.func31, Try.ntmps31
  go_wp2_with fail
  go_loopg [1, 5] n (fun g u i wr => ∃ j : Nat, j ≤ n ∧ g = n - j ∧ i = .int .i64 j ∧ u = .int .i64 (k + (sumN m j : Int)) ∧ Hid (Only lo B w wr ∧ RowS wr lo B b off n q m (mixS k m j f)))
  case atStart => exact ⟨0, Nat.zero_le _, rfl, rfl, by rw [show k + ((sumN m 0 : Nat) : Int) = k by show k + ((0 : Nat) : Int) = k; omega], Lib.hid ⟨Only.refl _ _ _, HS.out⟩⟩
  case round =>
    obtain ⟨j, hj, hg, rfl, rfl, hM⟩ := hrel
    rename World => wo
    have HGK := Lib.hid hg
    clear hg HS
    by_cases hlt : j < n
    · obtain ⟨_, Aj, cj, c1, r1⟩ := hM.out.2 j hlt
      have hs1 := sumN_le m (i := j + 1) (n := n) (by omega)
      have hs2 : sumN m (j + 1) = sumN m j + m j := rfl
      have hs3 := HM.out
      have KM := Lib.hid (markIntS_any Aj cj (m j) (k + (sumN m j : Int)) (q j) (q j + 1) _ wo (by omega) (by omega) (by omega) r1)
      have C1 := Lib.hid c1
      have E2 : Hid (k + (sumN m j : Int) + (m j : Int) = k + (sumN m (j + 1) : Int)) := Lib.hid (by rw [hs2]; omega)
      clear r1 hs1 hs2 hs3
      generalize hmj : m j = mj at *
      generalize hsj : sumN m j = sj at *
      have HE := Lib.hid (And.intro hmj hsj)
      clear hmj hsj
      go_wp2_with fail
      refine KM.out.mono ?_; rintro e w2 ⟨rfl, ho, hr2⟩
      have S2 := Lib.hid (by
        obtain ⟨h1, h2⟩ := HE.out
        subst h1 h2
        exact mark_row hb1 hb2 hM.out.1 hM.out.2 hlt C1.out ho hr2)
      clear ho hr2 c1
      go_wp2_with fail
      go_roundg (n - (j + 1))
      case measure => have := HGK.out; omega
      case rel => exact ⟨j + 1, by omega, rfl, by go_num, by rw [← E2.out], S2⟩
    · have hjn : n = j := by omega
      subst hjn
      go_wp2_with fail
      go_ret
      refine ⟨rfl, hM.out.1, fun _ => ⟨b, off, q, rfl, hb1, hb2, fun i hi => ?_⟩⟩
      obtain ⟨h1, Ai, ci, h2, h3⟩ := hM.out.2 i hi
      exact ⟨h1, Ai, ci, h2, rwi_same h3 fun t ht => by unfold mixS; rw [if_pos hi]⟩
set_option maxHeartbeats 1000000 in
theorem heldIntSS_any (A : Option Addr) (c n : Nat) (m : Nat → Nat) (k : Int) (lo B : Nat) (w : World) (hn : n ≤ 1048576) (hm : sumN m n ≤ 1048576) (hk1 : 1 ≤ k) (hk2 : k ≤ 10000000) (hR : RwS w lo B A n m (fun i t => k + (sumN m i : Int) + (t : Int))) :
    Calls Try.prog 32 #[.slice A n c, .int .i64 k] w fun e w' => e = .returned (.int .i64 (k + (sumN m n : Int))) ∧ w = w' := by
  have HR := Lib.hid hR
  have HM := Lib.hid hm
  clear hR hm
  go_enter Try.func32, Try.ntmps32
  go_wp2_with fail
  go_loopg [1, 5] n (fun g u i wr => ∃ j : Nat, j ≤ n ∧ g = n - j ∧ i = .int .i64 j ∧ u = .int .i64 (k + (sumN m j : Int)) ∧ w = wr)
  case atStart => exact ⟨0, Nat.zero_le _, rfl, rfl, by rw [show k + ((sumN m 0 : Nat) : Int) = k by show k + ((0 : Nat) : Int) = k; omega], rfl⟩
  case round =>
    obtain ⟨j, hj, hg, rfl, rfl, rfl⟩ := hrel
    have HGK := Lib.hid hg
    clear hg
    by_cases hlt : j < n
    · obtain ⟨b, off, q, hA, hb1, hb2, hr⟩ := HR.out (by omega)
      subst hA
      obtain ⟨_, Aj, cj, c1, r1⟩ := hr j hlt
      have hs1 := sumN_le m (i := j + 1) (n := n) (by omega)
      have hs2 : sumN m (j + 1) = sumN m j + m j := rfl
      have hs3 := HM.out
      have KM := Lib.hid (heldIntS_any Aj cj (m j) (k + (sumN m j : Int)) (q j) (q j + 1) w (by omega) (by omega) (by omega) r1)
      have E2 : Hid (k + (sumN m j : Int) + (m j : Int) = k + (sumN m (j + 1) : Int)) := Lib.hid (by rw [hs2]; omega)
      have P2 : ¬ (k + (sumN m j : Int) + (m j : Int) < 0) := by omega
      clear r1 hs1 hs2 hs3 hr
      generalize m j = mj at *
      generalize sumN m j = sj at *
      go_wp2_with fail
      refine KM.out.mono ?_; rintro e _ ⟨rfl, rfl⟩
      go_wp2_with fail
      go_roundg (n - (j + 1))
      case measure => have := HGK.out; omega
      case rel => exact ⟨j + 1, by omega, rfl, by go_num, by rw [← E2.out], rfl⟩
    · have hjn : n = j := by omega
      subst hjn
      go_wp2_with fail
      go_ret
      exact ⟨rfl, rfl⟩
end Go.Proofs.Ytgjegildeejghaa
