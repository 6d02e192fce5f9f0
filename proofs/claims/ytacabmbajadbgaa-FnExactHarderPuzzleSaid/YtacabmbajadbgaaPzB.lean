/- solutions: what they are; contracts: a peg fits all clues, the program; all pegs that fit, the model -/
import Derived.Test.YtacabmbajadbgaaPzA
import Derived.Test.YtacabmbajadbgaaOa
import Derived.Test.YtacabmbajadbgaaLa
import Derived.OwnWalk
namespace Go.Proofs.Ytacabmbajadbgaa
open Go.ChangeShapes Go.WideShapes Go.ChangeAt Go.RowKit Go.Joins
set_option linter.unusedVariables false
set_option linter.unusedSimpArgs false
set_option maxRecDepth 4000
def RowL (w : World) (base : Nat) (v : Value) (m : List (Int × Int)) : Prop := w.ownsRow base 53 2 v m.length (flat m)
theorem rowL_nil (w : World) (base : Nat) : RowL w base (.slice none 0 0) [] := World.ownsRow_nil w base _ _
theorem rowL_alloc {w : World} {base : Nat} {v : Value} {m : List (Int × Int)} (h : RowL w base v m) (o : Obj) : RowL (w.alloc o) base v m := World.ownsRow.alloc h o
theorem rowL_below {w w' : World} {base B : Nat} {v : Value} {m : List (Int × Int)} (h : RowL w base v m) (hb : Below B w w') (hB : w.heap.size ≤ B) : RowL w' base v m := by
  obtain ⟨h1, h2⟩ := h
  rcases h2 with h2 | ⟨g, cap, cur, hv, hg, hh, r⟩
  · exact ⟨h1, .inl h2⟩
  · have hl := World.ownsRow.lt (w := w) (base := base) (e := 53) (size := 2) (v := v) (n := m.length) (xs := flat m) ⟨h1, .inr ⟨g, cap, cur, hv, hg, hh, r⟩⟩ g (by rw [hv]; rfl)
    exact ⟨h1, .inr ⟨g, cap, cur, hv, hg, (hb.block g (by omega)).trans hh, r⟩⟩
theorem rowL_push {w W w1 : World} {v v' : Value} {m : List (Int × Int)} {x y : Int} (hB : Below w.heap.size w W) (hr : RowL W w.heap.size v m)
    (ho : w1.ownsRow w.heap.size 53 2 v' (m.length + 1) (flat m ++ [.int .i64 x, .int .i64 y])) (hg : W.grownBy w1 v.ownBlock) : RowL w1 w.heap.size v' (m ++ [(x, y)]) ∧ Below w.heap.size w w1 :=
  ⟨by unfold RowL; rw [flat_snoc, List.length_append]; exact ho, hB.grown hg hB.size fun g hgk => (World.ownsRow.lt hr g hgk).1⟩
theorem retP_rowL {w w' : World} {v : Value} {m : List (Int × Int)} (h : RowL w' w.heap.size v m) (hb : Below w.heap.size w w') : RetP w m (.returned v) w' := by
  obtain ⟨A, c, rfl, h1, h2, h3⟩ := rw_of_own h
  exact ⟨A, c, rfl, h1, h2, hb, h3⟩
theorem clue_fit {s k a b c p1 p2 : Int} (h : clueB s k a b c = true) (h1 : 1 ≤ s) (h2 : s ≤ 12) (hp : 0 ≤ p1 ∧ p1 ≤ s) (hq : 0 ≤ p2 ∧ p2 ≤ s) : kindB k = true ∧ Fit a b p1 p2 := by
  have hd : dfB s k a b c p1 p2 = true := by
    unfold dfB
    rw [h]
    unfold inQ
    simp [h1, h2, hp.1, hp.2, hq.1, hq.2]
  exact ⟨(df_fit hd).1, (df_fit hd).2.1⟩
/-- does a peg fit the first n clues? -/
def allF (f : Nat → Int) (p1 p2 : Int) : Nat → Bool
  | 0 => true
  | n + 1 => allF f p1 p2 n && fitB (f (n * 4)) (f (n * 4 + 1)) (f (n * 4 + 2)) (f (n * 4 + 3)) p1 p2
theorem allF_iff (f : Nat → Int) (p1 p2 : Int) (n : Nat) : allF f p1 p2 n = true ↔ ∀ i, i < n → fitB (f (i * 4)) (f (i * 4 + 1)) (f (i * 4 + 2)) (f (i * 4 + 3)) p1 p2 = true := by
  induction n with
  | zero => exact ⟨fun _ i h => absurd h (Nat.not_lt_zero _), fun _ => rfl⟩
  | succ n ih =>
    have e : allF f p1 p2 (n + 1) = (allF f p1 p2 n && fitB (f (n * 4)) (f (n * 4 + 1)) (f (n * 4 + 2)) (f (n * 4 + 3)) p1 p2) := rfl
    rw [e, Bool.and_eq_true, ih]
    constructor
    · rintro ⟨h1, h2⟩ i hi
      by_cases h : i = n
      · subst h; exact h2
      · exact h1 i (by omega)
    · intro h
      exact ⟨fun i hi => h i (by omega), h n (by omega)⟩
theorem allF_f {f : Nat → Int} {p1 p2 : Int} {n k : Nat} (hk : k < n) (h : fitB (f (k * 4)) (f (k * 4 + 1)) (f (k * 4 + 2)) (f (k * 4 + 3)) p1 p2 = false) : allF f p1 p2 n = false := by
  cases hb : allF f p1 p2 n
  · rfl
  · rw [(allF_iff f p1 p2 n).1 hb k hk] at h
    exact absurd h (by simp)
set_option maxHeartbeats 2000000 in
theorem puzFits_any (s : Int) (A : Option Addr) (c n : Nat) (f : Nat → Int) (p1 p2 : Int) (w : World) (hp : puzB s n f = true) (h1 : 0 ≤ p1 ∧ p1 ≤ s) (h2 : 0 ≤ p2 ∧ p2 ≤ s) (hR : RdI w w.heap.size A (n * 4) f) :
    Calls Try.prog 98 #[.agg #[.int .i64 s, .slice A n c], .agg #[.int .i64 p1, .int .i64 p2]] w fun e w' => e = .returned (.bool (allF f p1 p2 n)) ∧ Below w.heap.size w w' := by
  obtain ⟨s1, s2, hn, hcl⟩ := puzB_t hp
  have KF := Lib.hid (fun i (hi : i < n) W => fits_any (f (i * 4)) (f (i * 4 + 1)) (f (i * 4 + 2)) (f (i * 4 + 3)) p1 p2 W (clue_fit (hcl i hi) s1 s2 h1 h2).1 (clue_fit (hcl i hi) s1 s2 h1 h2).2)
  have HR := Lib.hid hR
  have HF := Lib.hid (fun k (hk : k < n) => allF_f (f := f) (p1 := p1) (p2 := p2) hk)
  have HT := Lib.hid (fun h => (allF_iff f p1 p2 n).2 h)
  clear hR hp h1 h2 hcl s1 s2
  go_enter Try.func98, Try.ntmps98
  go_wp2_with fail
  obtain ⟨W0, hW0⟩ : ∃ W0, W0 = (w.alloc (.cells #[.int .i64 s, .slice A n c] 28)).alloc (.cells #[.int .i64 p1, .int .i64 p2] 53) := ⟨_, rfl⟩
  have B0 : Below w.heap.size w W0 := by rw [hW0]; exact Below.alloc (Below.alloc (Below.refl _ _) (Nat.le_refl _) _) (by simp) _
  have x0 : W0.cell? ⟨w.heap.size + 1, 0, none⟩ = some (.int .i64 p1) := by rw [hW0]; go_simp
  have x1 : W0.cell? ⟨w.heap.size + 1, 1, none⟩ = some (.int .i64 p2) := by rw [hW0]; go_simp
  have z0 : w.heap.size + 1 < W0.heap.size := by rw [hW0]; simp
  rw [← hW0]
  clear hW0
  go_loopg [10] n (fun gg i wr => ∃ k : Nat, k ≤ n ∧ gg = n - k ∧ i = .int .i64 k ∧ Below W0.heap.size W0 wr ∧ Hid (∀ i, i < k → fitB (f (i * 4)) (f (i * 4 + 1)) (f (i * 4 + 2)) (f (i * 4 + 3)) p1 p2 = true))
  case atStart => exact ⟨0, Nat.zero_le _, rfl, rfl, Below.refl _ _, Lib.hid (fun i h => absurd h (Nat.not_lt_zero _))⟩
  case round =>
    obtain ⟨k, hk, hgg, rfl, hB, hC⟩ := hrel
    rename World => wo
    have HGK := Lib.hid hgg
    clear hgg
    have y0 := ((bcell hB).1 _ _ z0).trans x0
    have y1 := ((bcell hB).1 _ _ z0).trans x1
    have zy := Nat.lt_of_lt_of_le z0 hB.size
    have BB := B0.trans (hB.mono B0.size)
    by_cases hlt : k < n
    · obtain ⟨b, off, rfl, hb, hcell⟩ := HR.out (by omega)
      obtain ⟨q0, q1, q2, q3⟩ := clue_read hb hcell BB hlt
      have hz := BB.size
      have hbo : b < wo.heap.size := by omega
      have K1 := Lib.hid (fun W => KF.out k hlt W)
      have HF1 := Lib.hid (HF.out k hlt)
      have HC2 : Hid (fitB (f (k * 4)) (f (k * 4 + 1)) (f (k * 4 + 2)) (f (k * 4 + 3)) p1 p2 = true → ∀ i, i < k + 1 → fitB (f (i * 4)) (f (i * 4 + 1)) (f (i * 4 + 2)) (f (i * 4 + 3)) p1 p2 = true) := Lib.hid (fun h i hi => by
        by_cases hik : i = k
        · subst hik; exact h
        · exact hC.out i (by omega))
      clear hcell hC
      generalize f (k * 4) = n0 at *
      generalize f (k * 4 + 1) = n1 at *
      generalize f (k * 4 + 2) = n2 at *
      generalize f (k * 4 + 3) = n3 at *
      by_cases hcl : fitB n0 n1 n2 n3 p1 p2 = true
      · have HC3 := Lib.hid (HC2.out hcl)
        rw [hcl] at K1
        clear hcl HC2 HF1
        go_wp2_with fail
        obtain ⟨W1, hW1⟩ : ∃ W1, W1 = (wo.alloc (.cells #[.int .i64 n0, .int .i64 n1, .int .i64 n2, .int .i64 n3] 38)) := ⟨_, rfl⟩
        rw [← hW1]
        have yW10_0 : W1.cell? ⟨wo.heap.size, 0, none⟩ = some (.int .i64 n0) := by rw [hW1]; go_simp
        have yW10_1 : W1.cell? ⟨wo.heap.size, 1, none⟩ = some (.int .i64 n1) := by rw [hW1]; go_simp
        have yW10_2 : W1.cell? ⟨wo.heap.size, 2, none⟩ = some (.int .i64 n2) := by rw [hW1]; go_simp
        have yW10_3 : W1.cell? ⟨wo.heap.size, 3, none⟩ = some (.int .i64 n3) := by rw [hW1]; go_simp
        have fW10 : ∀ o, W1.frozen? ⟨wo.heap.size, o, none⟩ = false := by intro o; rw [hW1]; (repeat rw [frozen?_alloc_cells]); simp [World.frozen?]
        have zW10 : wo.heap.size < W1.heap.size := by rw [hW1]; simp <;> omega
        have BW1 : Below wo.heap.size wo W1 := by rw [hW1]; exact (Below.alloc (Below.refl _ _) (by simp <;> omega) _)
        have eW1 : Hid (W1.heap.size = wo.heap.size + 1) := Lib.hid (by rw [hW1]; simp)
        clear hW1
        have B1 := hB.trans (BW1.mono hB.size)
        refine (K1.out _).mono ?_; rintro e w2 ⟨rfl, hb2⟩
        have B2 := B1.trans (hb2.mono B1.size)
        clear hb2 B1 hB BW1 fW10 eW1 zW10 yW10_0 yW10_1 yW10_2 yW10_3 q0 q1 q2 q3 y0 y1
        go_wp2_with fail
        go_roundg (n - (k + 1))
        case measure => have := HGK.out; omega
        case rel => exact ⟨k + 1, by omega, rfl, by go_num, B2, HC3⟩
      · have hcf : fitB n0 n1 n2 n3 p1 p2 = false := by simpa using hcl
        have HFF := Lib.hid (HF1.out hcf)
        rw [hcf] at K1
        clear hcl hcf HC2 HF1
        go_wp2_with fail
        obtain ⟨W1, hW1⟩ : ∃ W1, W1 = (wo.alloc (.cells #[.int .i64 n0, .int .i64 n1, .int .i64 n2, .int .i64 n3] 38)) := ⟨_, rfl⟩
        rw [← hW1]
        have yW10_0 : W1.cell? ⟨wo.heap.size, 0, none⟩ = some (.int .i64 n0) := by rw [hW1]; go_simp
        have yW10_1 : W1.cell? ⟨wo.heap.size, 1, none⟩ = some (.int .i64 n1) := by rw [hW1]; go_simp
        have yW10_2 : W1.cell? ⟨wo.heap.size, 2, none⟩ = some (.int .i64 n2) := by rw [hW1]; go_simp
        have yW10_3 : W1.cell? ⟨wo.heap.size, 3, none⟩ = some (.int .i64 n3) := by rw [hW1]; go_simp
        have fW10 : ∀ o, W1.frozen? ⟨wo.heap.size, o, none⟩ = false := by intro o; rw [hW1]; (repeat rw [frozen?_alloc_cells]); simp [World.frozen?]
        have zW10 : wo.heap.size < W1.heap.size := by rw [hW1]; simp <;> omega
        have BW1 : Below wo.heap.size wo W1 := by rw [hW1]; exact (Below.alloc (Below.refl _ _) (by simp <;> omega) _)
        have eW1 : Hid (W1.heap.size = wo.heap.size + 1) := Lib.hid (by rw [hW1]; simp)
        clear hW1
        have B1 := BB.trans (BW1.mono hz)
        refine (K1.out _).mono ?_; rintro e w2 ⟨rfl, hb2⟩
        have B2 := B1.trans (hb2.mono B1.size)
        clear hb2 B1 hB BW1 fW10 eW1 zW10 yW10_0 yW10_1 yW10_2 yW10_3 q0 q1 q2 q3 y0 y1
        go_wp2_with fail
        go_ret
        exact ⟨ret_bool HFF.out.symm, B2⟩
    · obtain rfl : k = n := by omega
      have HTT := Lib.hid (HT.out hC.out)
      go_wp2_with fail
      go_ret
      exact ⟨ret_bool HTT.out.symm, BB⟩
/-- the pegs that fit, of the first k pegs of a board -/
noncomputable def solK (f : Nat → Int) (n m k : Nat) : List (Int × Int) := (firsts (bX m) k).filter fun p => allF f p.1 p.2 n
theorem solK_yes {f : Nat → Int} {n m k : Nat} (h : allF f (bX m k).1 (bX m k).2 n = true) : solK f n m (k + 1) = solK f n m k ++ [bX m k] := by
  unfold solK
  rw [firsts_succ, List.filter_append, List.filter_cons, if_pos h]
  rfl
theorem solK_no {f : Nat → Int} {n m k : Nat} (h : allF f (bX m k).1 (bX m k).2 n = false) : solK f n m (k + 1) = solK f n m k := by
  unfold solK
  rw [firsts_succ, List.filter_append, List.filter_cons, if_neg (by rw [h]; simp)]
  simp
theorem solK_len (f : Nat → Int) (n m k : Nat) : (solK f n m k).length ≤ k := by
  unfold solK
  exact Nat.le_trans (List.length_filter_le _ _) (by rw [firsts_len]; exact Nat.le_refl _)
end Go.Proofs.Ytacabmbajadbgaa
