/- joined: La PzB PzC PzD PzE Pw0 Pw1 Nbp Pw4 Pw5 Pw6 Pw7 PwB -/
import Derived.Test.YtacabmbajadbgaaZAddClue2
import Derived.Laws.OwnMore
import Derived.OwnWalk
import Derived.RegionTactic
import Derived.Laws.MakeOwn
import Derived.WideShapes
import Derived.Lib.AppendZerosOnto
import Derived.Deep.CutRange
import Derived.Deep.RegionWith
import Derived.Deep.DeepMust
/- rows of points that a call appends to; the model's list told backwards -/
namespace Go.Proofs.Ytacabmbajadbgaa
open Go.ChangeShapes Go.WideShapes Go.ChangeAt Go.RowKit Go.Joins
set_option linter.unusedVariables false
set_option linter.unusedSimpArgs false
set_option maxRecDepth 4000
/-- points as cells -/
def flat (l : List (Int × Int)) : List Value := l.flatMap fun p => [.int .i64 p.1, .int .i64 p.2]
theorem flat_nil : flat [] = [] := rfl
theorem flat_snoc (l : List (Int × Int)) (p : Int × Int) : flat (l ++ [p]) = flat l ++ [.int .i64 p.1, .int .i64 p.2] := by
  unfold flat; rw [List.flatMap_append]; rfl
theorem flat_get (l : List (Int × Int)) : ∀ i, i < l.length → (flat l)[i * 2]? = some (.int .i64 (pt l i).1) ∧ (flat l)[i * 2 + 1]? = some (.int .i64 (pt l i).2) := by
  induction l with
  | nil => intro i h; simp at h
  | cons p l ih =>
    intro i hi
    have e : flat (p :: l) = [.int .i64 p.1, .int .i64 p.2] ++ flat l := rfl
    rw [e]
    cases i with
    | zero => exact ⟨rfl, rfl⟩
    | succ i =>
      have h := ih i (by simpa using hi)
      have e2 : pt (p :: l) (i + 1) = pt l i := rfl
      rw [e2, show (i + 1) * 2 = 2 + i * 2 by omega, List.getElem?_append_right (by simp), List.getElem?_append_right (by simp; omega)]
      simpa [show 2 + i * 2 - 2 = i * 2 by omega, show 2 + i * 2 + 1 - 2 = i * 2 + 1 by omega] using h
/-- what a row of the call's own reads as -/
theorem rw_of_own {w : World} {base : Nat} {v : Value} {l : List (Int × Int)} (h : w.ownsRow base 53 2 v l.length (flat l)) :
    ∃ A c, v = .slice A l.length c ∧ l.length ≤ c ∧ c ≤ maxLen ∧ Rw w base w.heap.size A l.length (pt l) := by
  have h0 := h
  obtain ⟨h1, h2⟩ := h
  rcases h2 with ⟨hv, hn⟩ | ⟨g, cap, cur, hv, hg, hh, hc, hm, hs, ht⟩
  · exact ⟨none, 0, by rw [hv, hn], by omega, by simp [maxLen], fun hp => absurd hp (by omega)⟩
  · subst hv
    refine ⟨some ⟨g, 0, none⟩, cap, rfl, hc, hm, fun hp => ⟨g, 0, rfl, hg, (h0.lt g rfl).2, fun i hi => ?_⟩⟩
    have hf := flat_get l i hi
    rw [Nat.zero_add]
    exact ⟨⟨(h0.cellAt (i * 2) (by omega)).trans hf.1, (h0.cellAt (i * 2 + 1) (by omega)).trans hf.2⟩, h0.frozenAt _, h0.frozenAt _⟩
/-- the first k of the points f 0, f 1, .. -/
def firsts (f : Nat → Int × Int) (k : Nat) : List (Int × Int) := (List.range k).map f
theorem firsts_len (f : Nat → Int × Int) (k : Nat) : (firsts f k).length = k := by unfold firsts; simp
theorem firsts_succ (f : Nat → Int × Int) (k : Nat) : firsts f (k + 1) = firsts f k ++ [f k] := by unfold firsts; rw [List.range_succ, List.map_append]; rfl
theorem firsts_pt (f : Nat → Int × Int) (k i : Nat) (h : i < k) : pt (firsts f k) i = f i := by
  unfold pt firsts; rw [List.getElem?_map, List.getElem?_range h]; rfl
theorem firsts_get (f : Nat → Int × Int) (k i : Nat) (h : i < k) : (firsts f k)[i]? = some (f i) := by
  unfold firsts; rw [List.getElem?_map, List.getElem?_range h]; rfl
/-- a row that has grown by append: the first k points -/
def Row (w : World) (base : Nat) (v : Value) (f : Nat → Int × Int) (k : Nat) : Prop := w.ownsRow base 53 2 v k (flat (firsts f k))
theorem row_nil (w : World) (base : Nat) (f : Nat → Int × Int) : Row w base (.slice none 0 0) f 0 := World.ownsRow_nil w base _ _
theorem row_step {w : World} {base : Nat} {v : Value} {f : Nat → Int × Int} {k : Nat} (h : w.ownsRow base 53 2 v (k + 1) (flat (firsts f k) ++ [.int .i64 (f k).1, .int .i64 (f k).2])) : Row w base v f (k + 1) := by
  unfold Row; rw [firsts_succ, flat_snoc]; exact h
theorem row_out {w : World} {base : Nat} {v : Value} {f : Nat → Int × Int} {k : Nat} (h : Row w base v f k) :
    ∃ A c, v = .slice A k c ∧ k ≤ c ∧ c ≤ maxLen ∧ Rw w base w.heap.size A k f := by
  have h' : w.ownsRow base 53 2 v (firsts f k).length (flat (firsts f k)) := by rw [firsts_len]; exact h
  obtain ⟨A, c, e, h1, h2, h3⟩ := rw_of_own h'
  rw [firsts_len] at e h1 h3
  exact ⟨A, c, e, h1, h2, rw_same h3 fun i hi => firsts_pt f k i hi⟩
theorem row_alloc {w : World} {base : Nat} {v : Value} {f : Nat → Int × Int} {k : Nat} (h : Row w base v f k) (o : Obj) : Row (w.alloc o) base v f k := World.ownsRow.alloc h o
theorem row_below {w w' : World} {base B : Nat} {v : Value} {f : Nat → Int × Int} {k : Nat} (h : Row w base v f k) (hb : Below B w w') (hB : w.heap.size ≤ B) : Row w' base v f k := by
  obtain ⟨h1, h2⟩ := h
  rcases h2 with h2 | ⟨g, cap, cur, hv, hg, hh, r⟩
  · exact ⟨h1, .inl h2⟩
  · have hl := World.ownsRow.lt (w := w) (base := base) (e := 53) (size := 2) (v := v) (n := k) (xs := flat (firsts f k)) ⟨h1, .inr ⟨g, cap, cur, hv, hg, hh, r⟩⟩ g (by rw [hv]; rfl)
    exact ⟨h1, .inr ⟨g, cap, cur, hv, hg, (hb.block g (by omega)).trans hh, r⟩⟩
/-- behind an append -/
theorem row_push {w W w1 : World} {v v' : Value} {f : Nat → Int × Int} {k : Nat} (hB : Below w.heap.size w W) (hr : Row W w.heap.size v f k)
    (ho : w1.ownsRow w.heap.size 53 2 v' (k + 1) (flat (firsts f k) ++ [.int .i64 (f k).1, .int .i64 (f k).2])) (hg : W.grownBy w1 v.ownBlock) : Row w1 w.heap.size v' f (k + 1) ∧ Below w.heap.size w w1 :=
  ⟨row_step ho, hB.grown hg hB.size fun g hgk => (World.ownsRow.lt hr g hgk).1⟩
theorem two_cells {w : World} {g : Nat} {x y : Value} (h1 : w.cell? ⟨g, 0, none⟩ = some x) (h2 : w.cell? ⟨g, 1, none⟩ = some y) : ∀ j u, [x, y][j]? = some u → w.cell? ((⟨g, 0, none⟩ : Addr).add j) = some u := by
  intro j u hj
  match j, hj with
  | 0, hj => simp at hj; subst hj; exact h1
  | 1, hj => simp at hj; subst hj; exact h2
theorem two_one (x y : Int) : ∀ u ∈ [Value.int .i64 x, Value.int .i64 y], u.oneCell' = true := by
  intro u hu; simp at hu; rcases hu with rfl | rfl <;> rfl
/-- what a call returns that gives a list of points and says whether there is one -/
def RetL (w : World) (m : List (Int × Int)) (b : Bool) (e : Ending) (w' : World) : Prop :=
  ∃ A c, e = .returned (.tuple #[.slice A m.length c, .bool b]) ∧ m.length ≤ c ∧ c ≤ maxLen ∧ Below w.heap.size w w' ∧ Rw w' w.heap.size w'.heap.size A m.length (pt m)
/-- what a call returns that gives a list of points -/
def RetP (w : World) (m : List (Int × Int)) (e : Ending) (w' : World) : Prop :=
  ∃ A c, e = .returned (.slice A m.length c) ∧ m.length ≤ c ∧ c ≤ maxLen ∧ Below w.heap.size w w' ∧ Rw w' w.heap.size w'.heap.size A m.length (pt m)
theorem retP_row {w w' : World} {v : Value} {f : Nat → Int × Int} {k : Nat} (h : Row w' w.heap.size v f k) (hb : Below w.heap.size w w') : RetP w (firsts f k) (.returned v) w' := by
  obtain ⟨A, c, rfl, h1, h2, h3⟩ := row_out h
  refine ⟨A, c, by rw [firsts_len], by rw [firsts_len]; exact h1, h2, hb, ?_⟩
  rw [firsts_len]
  exact rw_same h3 fun i hi => (firsts_pt f k i hi).symm
theorem retL_nil {w w' : World} (hb : Below w.heap.size w w') : RetL w [] false (.returned (.tuple #[.slice none 0 0, .bool false])) w' :=
  ⟨none, 0, rfl, by simp, by simp [maxLen], hb, fun h => absurd h (by simp)⟩
theorem retL_of_P {w w1 w2 : World} {m : List (Int × Int)} {A : Option Addr} {c : Nat} (hb1 : Below w.heap.size w w1) (h1 : m.length ≤ c) (h2 : c ≤ maxLen) (hb2 : Below w1.heap.size w1 w2) (h : Rw w2 w1.heap.size w2.heap.size A m.length (pt m)) :
    RetL w m true (.returned (.tuple #[.slice A m.length c, .bool true])) w2 :=
  ⟨A, c, rfl, h1, h2, hb1.trans (hb2.mono hb1.size), rw_more h hb1.size (Nat.le_refl _)⟩
theorem retL_up {w w1 w2 : World} {m : List (Int × Int)} {b : Bool} {e : Ending} (hb1 : Below w.heap.size w w1) (h : RetL w1 m b e w2) : RetL w m b e w2 := by
  obtain ⟨A, c, e, h1, h2, h3, h4⟩ := h
  exact ⟨A, c, e, h1, h2, hb1.trans (h3.mono hb1.size), rw_more h4 hb1.size (Nat.le_refl _)⟩
end Go.Proofs.Ytacabmbajadbgaa
/- solutions: what they are; contracts: a peg fits all clues, the program; all pegs that fit, the model -/
namespace Go.Proofs.Ytacabmbajadbgaa
open Go.ChangeShapes Go.WideShapes Go.ChangeAt Go.RowKit Go.Joins
set_option linter.unusedVariables false
set_option linter.unusedSimpArgs false
set_option maxRecDepth 4000
def RowL (w : World) (base : Nat) (v : Value) (m : List (Int × Int)) : Prop := w.ownsRow base 53 2 v m.length (flat m)
theorem rowL_nil (w : World) (base : Nat) : RowL w base (.slice none 0 0) [] := World.ownsRow_nil w base _ _
theorem rowL_alloc {w : World} {base : Nat} {v : Value} {m : List (Int × Int)} (h : RowL w base v m) (o : Obj) : RowL (w.alloc o) base v m := World.ownsRow.alloc h o
theorem rowL_below {w w' : World} {base B : Nat} {v : Value} {m : List (Int × Int)} (h : RowL w base v m) (hb : Below B w w') (hB : w.heap.size ≤ B) : RowL w' base v m := by
  obtain ⟨h1, h2⟩ := h
  rcases h2 with h2 | ⟨g, cap, cur, hv, hg, hh, r⟩
  · exact ⟨h1, .inl h2⟩
  · have hl := World.ownsRow.lt (w := w) (base := base) (e := 53) (size := 2) (v := v) (n := m.length) (xs := flat m) ⟨h1, .inr ⟨g, cap, cur, hv, hg, hh, r⟩⟩ g (by rw [hv]; rfl)
    exact ⟨h1, .inr ⟨g, cap, cur, hv, hg, (hb.block g (by omega)).trans hh, r⟩⟩
theorem rowL_push {w W w1 : World} {v v' : Value} {m : List (Int × Int)} {x y : Int} (hB : Below w.heap.size w W) (hr : RowL W w.heap.size v m)
    (ho : w1.ownsRow w.heap.size 53 2 v' (m.length + 1) (flat m ++ [.int .i64 x, .int .i64 y])) (hg : W.grownBy w1 v.ownBlock) : RowL w1 w.heap.size v' (m ++ [(x, y)]) ∧ Below w.heap.size w w1 :=
  ⟨by unfold RowL; rw [flat_snoc, List.length_append]; exact ho, hB.grown hg hB.size fun g hgk => (World.ownsRow.lt hr g hgk).1⟩
theorem retP_rowL {w w' : World} {v : Value} {m : List (Int × Int)} (h : RowL w' w.heap.size v m) (hb : Below w.heap.size w w') : RetP w m (.returned v) w' := by
  obtain ⟨A, c, rfl, h1, h2, h3⟩ := rw_of_own h
  exact ⟨A, c, rfl, h1, h2, hb, h3⟩
theorem clue_fit {s k a b c p1 p2 : Int} (h : clueB s k a b c = true) (h1 : 1 ≤ s) (h2 : s ≤ 12) (hp : 0 ≤ p1 ∧ p1 ≤ s) (hq : 0 ≤ p2 ∧ p2 ≤ s) : kindB k = true ∧ Fit a b p1 p2 := by
  have hd : dfB s k a b c p1 p2 = true := by
    unfold dfB
    rw [h]
    unfold inQ
    simp [h1, h2, hp.1, hp.2, hq.1, hq.2]
  exact ⟨(df_fit hd).1, (df_fit hd).2.1⟩
/-- does a peg fit the first n clues? -/
def allF (f : Nat → Int) (p1 p2 : Int) : Nat → Bool
  | 0 => true
  | n + 1 => allF f p1 p2 n && fitB (f (n * 4)) (f (n * 4 + 1)) (f (n * 4 + 2)) (f (n * 4 + 3)) p1 p2
theorem allF_iff (f : Nat → Int) (p1 p2 : Int) (n : Nat) : allF f p1 p2 n = true ↔ ∀ i, i < n → fitB (f (i * 4)) (f (i * 4 + 1)) (f (i * 4 + 2)) (f (i * 4 + 3)) p1 p2 = true := by
  induction n with
  | zero => exact ⟨fun _ i h => absurd h (Nat.not_lt_zero _), fun _ => rfl⟩
  | succ n ih =>
    have e : allF f p1 p2 (n + 1) = (allF f p1 p2 n && fitB (f (n * 4)) (f (n * 4 + 1)) (f (n * 4 + 2)) (f (n * 4 + 3)) p1 p2) := rfl
    rw [e, Bool.and_eq_true, ih]
    constructor
    · rintro ⟨h1, h2⟩ i hi
      by_cases h : i = n
      · subst h; exact h2
      · exact h1 i (by omega)
    · intro h
      exact ⟨fun i hi => h i (by omega), h n (by omega)⟩
theorem allF_f {f : Nat → Int} {p1 p2 : Int} {n k : Nat} (hk : k < n) (h : fitB (f (k * 4)) (f (k * 4 + 1)) (f (k * 4 + 2)) (f (k * 4 + 3)) p1 p2 = false) : allF f p1 p2 n = false := by
  cases hb : allF f p1 p2 n
  · rfl
  · rw [(allF_iff f p1 p2 n).1 hb k hk] at h
    exact absurd h (by simp)
set_option maxHeartbeats 2000000 in
theorem puzFits_any (s : Int) (A : Option Addr) (c n : Nat) (f : Nat → Int) (p1 p2 : Int) (w : World) (hp : puzB s n f = true) (h1 : 0 ≤ p1 ∧ p1 ≤ s) (h2 : 0 ≤ p2 ∧ p2 ≤ s) (hR : RdI w w.heap.size A (n * 4) f) :
    Calls Try.prog 98 #[.agg #[.int .i64 s, .slice A n c], .agg #[.int .i64 p1, .int .i64 p2]] w fun e w' => e = .returned (.bool (allF f p1 p2 n)) ∧ Below w.heap.size w w' := by
  obtain ⟨s1, s2, hn, hcl⟩ := puzB_t hp
  have KF := Lib.hid (fun i (hi : i < n) W => fits_any (f (i * 4)) (f (i * 4 + 1)) (f (i * 4 + 2)) (f (i * 4 + 3)) p1 p2 W (clue_fit (hcl i hi) s1 s2 h1 h2).1 (clue_fit (hcl i hi) s1 s2 h1 h2).2)
  have HR := Lib.hid hR
  have HF := Lib.hid (fun k (hk : k < n) => allF_f (f := f) (p1 := p1) (p2 := p2) hk)
  have HT := Lib.hid (fun h => (allF_iff f p1 p2 n).2 h)
  clear hR hp h1 h2 hcl s1 s2
  go_enter Try.func98, Try.ntmps98
  go_wp2_with fail
  obtain ⟨W0, hW0⟩ : ∃ W0, W0 = (w.alloc (.cells #[.int .i64 s, .slice A n c] 28)).alloc (.cells #[.int .i64 p1, .int .i64 p2] 53) := ⟨_, rfl⟩
  have B0 : Below w.heap.size w W0 := by rw [hW0]; exact Below.alloc (Below.alloc (Below.refl _ _) (Nat.le_refl _) _) (by simp) _
  have x0 : W0.cell? ⟨w.heap.size + 1, 0, none⟩ = some (.int .i64 p1) := by rw [hW0]; go_simp
  have x1 : W0.cell? ⟨w.heap.size + 1, 1, none⟩ = some (.int .i64 p2) := by rw [hW0]; go_simp
  have z0 : w.heap.size + 1 < W0.heap.size := by rw [hW0]; simp
  rw [← hW0]
  clear hW0
  go_loopg [10] n (fun gg i wr => ∃ k : Nat, k ≤ n ∧ gg = n - k ∧ i = .int .i64 k ∧ Below W0.heap.size W0 wr ∧ Hid (∀ i, i < k → fitB (f (i * 4)) (f (i * 4 + 1)) (f (i * 4 + 2)) (f (i * 4 + 3)) p1 p2 = true))
  case atStart => exact ⟨0, Nat.zero_le _, rfl, rfl, Below.refl _ _, Lib.hid (fun i h => absurd h (Nat.not_lt_zero _))⟩
  case round =>
    obtain ⟨k, hk, hgg, rfl, hB, hC⟩ := hrel
    rename World => wo
    have HGK := Lib.hid hgg
    clear hgg
    have y0 := ((bcell hB).1 _ _ z0).trans x0
    have y1 := ((bcell hB).1 _ _ z0).trans x1
    have zy := Nat.lt_of_lt_of_le z0 hB.size
    have BB := B0.trans (hB.mono B0.size)
    by_cases hlt : k < n
    · obtain ⟨b, off, rfl, hb, hcell⟩ := HR.out (by omega)
      obtain ⟨q0, q1, q2, q3⟩ := clue_read hb hcell BB hlt
      have hz := BB.size
      have hbo : b < wo.heap.size := by omega
      have K1 := Lib.hid (fun W => KF.out k hlt W)
      have HF1 := Lib.hid (HF.out k hlt)
      have HC2 : Hid (fitB (f (k * 4)) (f (k * 4 + 1)) (f (k * 4 + 2)) (f (k * 4 + 3)) p1 p2 = true → ∀ i, i < k + 1 → fitB (f (i * 4)) (f (i * 4 + 1)) (f (i * 4 + 2)) (f (i * 4 + 3)) p1 p2 = true) := Lib.hid (fun h i hi => by
        by_cases hik : i = k
        · subst hik; exact h
        · exact hC.out i (by omega))
      clear hcell hC
      generalize f (k * 4) = n0 at *
      generalize f (k * 4 + 1) = n1 at *
      generalize f (k * 4 + 2) = n2 at *
      generalize f (k * 4 + 3) = n3 at *
      by_cases hcl : fitB n0 n1 n2 n3 p1 p2 = true
      · have HC3 := Lib.hid (HC2.out hcl)
        rw [hcl] at K1
        clear hcl HC2 HF1
        go_wp2_with fail
        obtain ⟨W1, hW1⟩ : ∃ W1, W1 = (wo.alloc (.cells #[.int .i64 n0, .int .i64 n1, .int .i64 n2, .int .i64 n3] 38)) := ⟨_, rfl⟩
        rw [← hW1]
        have yW10_0 : W1.cell? ⟨wo.heap.size, 0, none⟩ = some (.int .i64 n0) := by rw [hW1]; go_simp
        have yW10_1 : W1.cell? ⟨wo.heap.size, 1, none⟩ = some (.int .i64 n1) := by rw [hW1]; go_simp
        have yW10_2 : W1.cell? ⟨wo.heap.size, 2, none⟩ = some (.int .i64 n2) := by rw [hW1]; go_simp
        have yW10_3 : W1.cell? ⟨wo.heap.size, 3, none⟩ = some (.int .i64 n3) := by rw [hW1]; go_simp
        have fW10 : ∀ o, W1.frozen? ⟨wo.heap.size, o, none⟩ = false := by intro o; rw [hW1]; (repeat rw [frozen?_alloc_cells]); simp [World.frozen?]
        have zW10 : wo.heap.size < W1.heap.size := by rw [hW1]; simp <;> omega
        have BW1 : Below wo.heap.size wo W1 := by rw [hW1]; exact (Below.alloc (Below.refl _ _) (by simp <;> omega) _)
        have eW1 : Hid (W1.heap.size = wo.heap.size + 1) := Lib.hid (by rw [hW1]; simp)
        clear hW1
        have B1 := hB.trans (BW1.mono hB.size)
        refine (K1.out _).mono ?_; rintro e w2 ⟨rfl, hb2⟩
        have B2 := B1.trans (hb2.mono B1.size)
        clear hb2 B1 hB BW1 fW10 eW1 zW10 yW10_0 yW10_1 yW10_2 yW10_3 q0 q1 q2 q3 y0 y1
        go_wp2_with fail
        go_roundg (n - (k + 1))
        case measure => have := HGK.out; omega
        case rel => exact ⟨k + 1, by omega, rfl, by go_num, B2, HC3⟩
      · have hcf : fitB n0 n1 n2 n3 p1 p2 = false := by simpa using hcl
        have HFF := Lib.hid (HF1.out hcf)
        rw [hcf] at K1
        clear hcl hcf HC2 HF1
        go_wp2_with fail
        obtain ⟨W1, hW1⟩ : ∃ W1, W1 = (wo.alloc (.cells #[.int .i64 n0, .int .i64 n1, .int .i64 n2, .int .i64 n3] 38)) := ⟨_, rfl⟩
        rw [← hW1]
        have yW10_0 : W1.cell? ⟨wo.heap.size, 0, none⟩ = some (.int .i64 n0) := by rw [hW1]; go_simp
        have yW10_1 : W1.cell? ⟨wo.heap.size, 1, none⟩ = some (.int .i64 n1) := by rw [hW1]; go_simp
        have yW10_2 : W1.cell? ⟨wo.heap.size, 2, none⟩ = some (.int .i64 n2) := by rw [hW1]; go_simp
        have yW10_3 : W1.cell? ⟨wo.heap.size, 3, none⟩ = some (.int .i64 n3) := by rw [hW1]; go_simp
        have fW10 : ∀ o, W1.frozen? ⟨wo.heap.size, o, none⟩ = false := by intro o; rw [hW1]; (repeat rw [frozen?_alloc_cells]); simp [World.frozen?]
        have zW10 : wo.heap.size < W1.heap.size := by rw [hW1]; simp <;> omega
        have BW1 : Below wo.heap.size wo W1 := by rw [hW1]; exact (Below.alloc (Below.refl _ _) (by simp <;> omega) _)
        have eW1 : Hid (W1.heap.size = wo.heap.size + 1) := Lib.hid (by rw [hW1]; simp)
        clear hW1
        have B1 := BB.trans (BW1.mono hz)
        refine (K1.out _).mono ?_; rintro e w2 ⟨rfl, hb2⟩
        have B2 := B1.trans (hb2.mono B1.size)
        clear hb2 B1 hB BW1 fW10 eW1 zW10 yW10_0 yW10_1 yW10_2 yW10_3 q0 q1 q2 q3 y0 y1
        go_wp2_with fail
        go_ret
        exact ⟨ret_bool HFF.out.symm, B2⟩
    · obtain rfl : k = n := by omega
      have HTT := Lib.hid (HT.out hC.out)
      go_wp2_with fail
      go_ret
      exact ⟨ret_bool HTT.out.symm, BB⟩
/-- the pegs that fit, of the first k pegs of a board -/
noncomputable def solK (f : Nat → Int) (n m k : Nat) : List (Int × Int) := (firsts (bX m) k).filter fun p => allF f p.1 p.2 n
theorem solK_yes {f : Nat → Int} {n m k : Nat} (h : allF f (bX m k).1 (bX m k).2 n = true) : solK f n m (k + 1) = solK f n m k ++ [bX m k] := by
  unfold solK
  rw [firsts_succ, List.filter_append, List.filter_cons, if_pos h]
  rfl
theorem solK_no {f : Nat → Int} {n m k : Nat} (h : allF f (bX m k).1 (bX m k).2 n = false) : solK f n m (k + 1) = solK f n m k := by
  unfold solK
  rw [firsts_succ, List.filter_append, List.filter_cons, if_neg (by rw [h]; simp)]
  simp
theorem solK_len (f : Nat → Int) (n m k : Nat) : (solK f n m k).length ≤ k := by
  unfold solK
  exact Nat.le_trans (List.length_filter_le _ _) (by rw [firsts_len]; exact Nat.le_refl _)
end Go.Proofs.Ytacabmbajadbgaa
/- contracts: all pegs that fit, the model -/
namespace Go.Proofs.Ytacabmbajadbgaa
open Go.ChangeShapes Go.WideShapes Go.ChangeAt Go.RowKit Go.Joins
set_option linter.unusedVariables false
set_option linter.unusedSimpArgs false
set_option maxRecDepth 4000
set_option maxHeartbeats 4000000 in
theorem pzAll_any (ns : Nat) (A : Option Addr) (c n : Nat) (f : Nat → Int) (w : World) (hp : puzB (ns : Int) n f = true) (hR : RdI w w.heap.size A (n * 4) f) :
    Calls Try.prog 66 #[.int .i64 (ns : Int), .slice A n c] w (RetP w (solK f n (ns + 1) ((ns + 1) * (ns + 1)))) := by
  obtain ⟨s1, s2, hn, hcl⟩ := puzB_t hp
  obtain ⟨i0, hi0, hz0, hz1, hz2⟩ := info_parts peg_info
  have HI := Lib.hid (And.intro hi0 (And.intro hz0 (And.intro hz1 hz2)))
  clear hi0 hz0 hz1 hz2
  have KF := Lib.hid (fun k (hk : k < n) (p1 p2 : Int) (g1 : 0 ≤ p1 ∧ p1 ≤ (ns : Int)) (g2 : 0 ≤ p2 ∧ p2 ≤ (ns : Int)) W => pzFits_any (f (k * 4)) (f (k * 4 + 1)) (f (k * 4 + 2)) (f (k * 4 + 3)) p1 p2 W (clue_fit (hcl k hk) s1 s2 g1 g2).1 (clue_fit (hcl k hk) s1 s2 g1 g2).2)
  have HR := Lib.hid hR
  have HX : Hid (∀ i j, j < ns + 1 → bX (ns + 1) (i * (ns + 1) + j) = ((i : Int), (j : Int))) := Lib.hid (fun i j h => bX_row i h)
  have HL : Hid (∀ i j, i < ns + 1 → j ≤ ns + 1 → (solK f n (ns + 1) (i * (ns + 1) + j)).length ≤ 400) := Lib.hid (fun i j hi hj => by
    have h1 := solK_len f n (ns + 1) (i * (ns + 1) + j)
    have h2 := Nat.mul_le_mul (show i + 1 ≤ 13 by omega) (show ns + 1 ≤ 13 by omega)
    rw [Nat.add_mul] at h2
    omega)
  have HS : Hid (∀ i, i * (ns + 1) + (ns + 1) = (i + 1) * (ns + 1)) := Lib.hid (fun i => by rw [Nat.add_mul i 1, Nat.one_mul])
  have HYes := Lib.hid (fun k (h : allF f (bX (ns + 1) k).1 (bX (ns + 1) k).2 n = true) => solK_yes (f := f) (n := n) (m := ns + 1) h)
  have HNo := Lib.hid (fun k (h : allF f (bX (ns + 1) k).1 (bX (ns + 1) k).2 n = false) => solK_no (f := f) (n := n) (m := ns + 1) h)
  have H0 : Hid (solK f n (ns + 1) 0 = []) := Lib.hid rfl
  have HN : Hid (∀ v W, RowL W w.heap.size v (solK f n (ns + 1) ((ns + 1) * (ns + 1))) → Below w.heap.size w W → RetP w (solK f n (ns + 1) ((ns + 1) * (ns + 1))) (.returned v) W) := Lib.hid (fun v W h hb => retP_rowL h hb)
  have HA : Hid (∀ p1 p2 k, allF f p1 p2 (k + 1) = (allF f p1 p2 k && fitB (f (k * 4)) (f (k * 4 + 1)) (f (k * 4 + 2)) (f (k * 4 + 3)) p1 p2)) := Lib.hid (fun _ _ _ => rfl)
  have HA0 : Hid (∀ p1 p2, allF f p1 p2 0 = true) := Lib.hid (fun _ _ => rfl)
  have hns : ns ≤ 12 := by omega
  clear hp hR hcl s1 s2
  go_enter Try.func66, Try.ntmps66
  go_wp2_with fail
  go_loopg [5, 6] (ns + 1) (fun g o x wr => ∃ (i : Nat) (v : Value), v = o ∧ i ≤ ns + 1 ∧ g = ns + 1 - i ∧ x = .int .i64 (i : Int) ∧ Below w.heap.size w wr ∧ Hid (RowL wr w.heap.size v (solK f n (ns + 1) (i * (ns + 1)))))
  case atStart => exact ⟨0, _, rfl, Nat.zero_le _, rfl, rfl, Below.refl _ _, Lib.hid (by rw [Nat.zero_mul, H0.out]; exact rowL_nil _ _)⟩
  case round =>
    obtain ⟨i, v, rfl, hi, hg, rfl, hB, hr⟩ := hrel
    rename World => wo
    have HGK := Lib.hid hg
    clear hg
    by_cases hlt : i < ns + 1
    · have d1 : (i : Int) ≤ (ns : Int) := by omega
      go_wp2_with fail
      go_loopg [5, 7] (ns + 1) (fun g o y wr => ∃ (j : Nat) (v : Value), v = o ∧ j ≤ ns + 1 ∧ g = ns + 1 - j ∧ y = .int .i64 (j : Int) ∧ Below w.heap.size w wr ∧ Hid (RowL wr w.heap.size v (solK f n (ns + 1) (i * (ns + 1) + j))))
      case atStart => exact ⟨0, _, rfl, Nat.zero_le _, rfl, rfl, hB, Lib.hid (by rw [Nat.add_zero]; exact hr.out)⟩
      case round =>
        clear hB hr
        rename Value => v0
        obtain ⟨j, v, rfl, hj, hg, rfl, hB, hr⟩ := hrel
        rename World => wi
        have HGJ := Lib.hid hg
        clear hg
        by_cases hlj : j < ns + 1
        · have d2 : (j : Int) ≤ (ns : Int) := by omega
          have hzB := hB.size
          go_wp2_with fail
          obtain ⟨Wp, hWp⟩ : ∃ Wp, Wp = (wi.alloc (.cells #[.int .i64 ((i : Int)), .int .i64 ((j : Int))] 53)) := ⟨_, rfl⟩
          rw [← hWp]
          have yWp0_0 : Wp.cell? ⟨wi.heap.size, 0, none⟩ = some (.int .i64 ((i : Int))) := by rw [hWp]; go_simp
          have yWp0_1 : Wp.cell? ⟨wi.heap.size, 1, none⟩ = some (.int .i64 ((j : Int))) := by rw [hWp]; go_simp
          have fWp0 : ∀ o, Wp.frozen? ⟨wi.heap.size, o, none⟩ = false := by intro o; rw [hWp]; (repeat rw [frozen?_alloc_cells]); simp [World.frozen?]
          have zWp0 : wi.heap.size < Wp.heap.size := by rw [hWp]; simp <;> omega
          have BWp : Below wi.heap.size wi Wp := by rw [hWp]; exact (Below.alloc (Below.refl _ _) (by simp <;> omega) _)
          have eWp : Hid (Wp.heap.size = wi.heap.size + 1) := Lib.hid (by rw [hWp]; simp)
          clear hWp
          have RA := Lib.hid (rowL_below hr.out BWp (Nat.le_refl _))
          have BA := hB.trans (BWp.mono hzB)
          clear hr fWp0 eWp hB BWp
          go_loopg [9, 27] n (fun g o y wr => ∃ k : Nat, k ≤ n ∧ g = n - k ∧ y = .int .i64 (k : Int) ∧ o = .bool (allF f (i : Int) (j : Int) k) ∧ Below Wp.heap.size Wp wr)
          case atStart => exact ⟨0, Nat.zero_le _, rfl, rfl, by rw [HA0.out], Below.refl _ _⟩
          case round =>
            obtain ⟨k, hk, hg, rfl, rfl, hB⟩ := hrel
            rename World => wk
            have HGC := Lib.hid hg
            clear hg
            have y0 := ((bcell hB).1 _ _ zWp0).trans yWp0_0
            have y1 := ((bcell hB).1 _ _ zWp0).trans yWp0_1
            have zy := Nat.lt_of_lt_of_le zWp0 hB.size
            have BB := BA.trans (hB.mono BA.size)
            have hzk := BB.size
            by_cases hlk : k < n
            · obtain ⟨b, off, rfl, hb, hcell⟩ := HR.out (by omega)
              obtain ⟨q0, q1, q2, q3⟩ := clue_read hb hcell BB hlk
              have hbo : b < wk.heap.size := by omega
              have K1 := Lib.hid (fun W => KF.out k hlk (i : Int) (j : Int) (by omega) (by omega) W)
              have HA1 := Lib.hid (HA.out (i : Int) (j : Int) k)
              clear hcell
              generalize f (k * 4) = n0 at *
              generalize f (k * 4 + 1) = n1 at *
              generalize f (k * 4 + 2) = n2 at *
              generalize f (k * 4 + 3) = n3 at *
              generalize fitB n0 n1 n2 n3 (i : Int) (j : Int) = q at *
              cases ha : allF f (i : Int) (j : Int) k
              · have HA2 := Lib.hid (show allF f (i : Int) (j : Int) (k + 1) = false from by rw [HA1.out, ha]; rfl)
                clear HA1 ha K1
                go_wp2_with fail
                obtain ⟨W1, hW1⟩ : ∃ W1, W1 = (wk.alloc (.cells #[.int .i64 n0, .int .i64 n1, .int .i64 n2, .int .i64 n3] 38)) := ⟨_, rfl⟩
                rw [← hW1]
                have yW10_0 : W1.cell? ⟨wk.heap.size, 0, none⟩ = some (.int .i64 n0) := by rw [hW1]; go_simp
                have yW10_1 : W1.cell? ⟨wk.heap.size, 1, none⟩ = some (.int .i64 n1) := by rw [hW1]; go_simp
                have yW10_2 : W1.cell? ⟨wk.heap.size, 2, none⟩ = some (.int .i64 n2) := by rw [hW1]; go_simp
                have yW10_3 : W1.cell? ⟨wk.heap.size, 3, none⟩ = some (.int .i64 n3) := by rw [hW1]; go_simp
                have fW10 : ∀ o, W1.frozen? ⟨wk.heap.size, o, none⟩ = false := by intro o; rw [hW1]; (repeat rw [frozen?_alloc_cells]); simp [World.frozen?]
                have zW10 : wk.heap.size < W1.heap.size := by rw [hW1]; simp <;> omega
                have BW1 : Below wk.heap.size wk W1 := by rw [hW1]; exact (Below.alloc (Below.refl _ _) (by simp <;> omega) _)
                have eW1 : Hid (W1.heap.size = wk.heap.size + 1) := Lib.hid (by rw [hW1]; simp)
                clear hW1
                have B1 := hB.trans (BW1.mono hB.size)
                clear BW1 fW10 eW1 zW10 yW10_0 yW10_1 yW10_2 yW10_3 q0 q1 q2 q3 y0 y1 hB BB
                go_roundg (n - (k + 1))
                case measure => have := HGC.out; omega
                case rel => exact ⟨k + 1, by omega, rfl, by go_num, by rw [HA2.out], B1⟩
              · have HA2 := Lib.hid (show allF f (i : Int) (j : Int) (k + 1) = q from by rw [HA1.out, ha]; rfl)
                clear HA1 ha
                go_wp2_with fail
                obtain ⟨W1, hW1⟩ : ∃ W1, W1 = (wk.alloc (.cells #[.int .i64 n0, .int .i64 n1, .int .i64 n2, .int .i64 n3] 38)) := ⟨_, rfl⟩
                rw [← hW1]
                have yW10_0 : W1.cell? ⟨wk.heap.size, 0, none⟩ = some (.int .i64 n0) := by rw [hW1]; go_simp
                have yW10_1 : W1.cell? ⟨wk.heap.size, 1, none⟩ = some (.int .i64 n1) := by rw [hW1]; go_simp
                have yW10_2 : W1.cell? ⟨wk.heap.size, 2, none⟩ = some (.int .i64 n2) := by rw [hW1]; go_simp
                have yW10_3 : W1.cell? ⟨wk.heap.size, 3, none⟩ = some (.int .i64 n3) := by rw [hW1]; go_simp
                have fW10 : ∀ o, W1.frozen? ⟨wk.heap.size, o, none⟩ = false := by intro o; rw [hW1]; (repeat rw [frozen?_alloc_cells]); simp [World.frozen?]
                have zW10 : wk.heap.size < W1.heap.size := by rw [hW1]; simp <;> omega
                have BW1 : Below wk.heap.size wk W1 := by rw [hW1]; exact (Below.alloc (Below.refl _ _) (by simp <;> omega) _)
                have eW1 : Hid (W1.heap.size = wk.heap.size + 1) := Lib.hid (by rw [hW1]; simp)
                clear hW1
                have B1 := hB.trans (BW1.mono hB.size)
                refine (K1.out _).mono ?_; rintro e w2 ⟨rfl, hb2⟩
                have B2 := B1.trans (hb2.mono B1.size)
                clear hb2 BW1 fW10 eW1 zW10 yW10_0 yW10_1 yW10_2 yW10_3 q0 q1 q2 q3 y0 y1 hB BB B1 K1
                go_wp2_with fail
                go_roundg (n - (k + 1))
                case measure => have := HGC.out; omega
                case rel => exact ⟨k + 1, by omega, rfl, by go_num, by rw [HA2.out], B2⟩
            · obtain rfl : k = n := by omega
              have RB := Lib.hid (rowL_below RA.out hB (Nat.le_refl _))
              have hm := HL.out i j (by omega) (by omega)
              have hX := HX.out i j hlj
              have hY := HYes.out (i * (ns + 1) + j)
              have hO := HNo.out (i * (ns + 1) + j)
              rw [hX] at hY hO
              have HY := Lib.hid hY
              have HO := Lib.hid hO
              have HAS : Hid (i * (ns + 1) + (j + 1) = i * (ns + 1) + j + 1) := Lib.hid (Nat.add_assoc _ _ _).symm
              clear hX hY hO RA yWp0_0 yWp0_1 zWp0 hB
              generalize i * (ns + 1) + j = q at *
              cases ha : allF f (i : Int) (j : Int) k
              · have hN2 := Lib.hid (HO.out ha)
                clear ha HY HO y0 y1
                go_wp2_with fail
                go_roundg (ns + 1 - (j + 1))
                case measure => have := HGJ.out; omega
                case rel => exact ⟨j + 1, v, rfl, by omega, rfl, by go_num, BB, Lib.hid (by rw [HAS.out, hN2.out]; exact RB.out)⟩
              · have hN2 := Lib.hid (HY.out ha)
                clear ha HY HO
                generalize solK f k (ns + 1) q = m at *
                go_wp2_with (at_builtin; go_loud (refine wpList_append_own _ rfl (.tmp 39) (.tmp 41) 61 rfl w.heap.size 53 i0 (.agg #[.int .i64 0, .int .i64 0]) 2 16 Try.underlying61 HI.out.1 HI.out.2.1 HI.out.2.2.1 HI.out.2.2.2 rfl (by decide) _ m.length (flat m) rfl (rowL_alloc RB.out _) ⟨wk.heap.size, 0, none⟩ 1 1 [.int .i64 (i : Int), .int .i64 (j : Int)] rfl rfl (two_cells (by go_simp) (by go_simp)) (two_one _ _) (by unfold maxLen; omega) (by omega) (by simp; omega) ?_))
                intro v' w2 hown hgr _
                have RC := rowL_push (Below.alloc BB hzk _) (rowL_alloc RB.out _) hown hgr
                have R2 := Lib.hid RC.1
                have B2 := RC.2
                clear RC hown hgr BB RB
                go_wp2_with fail
                go_roundg (ns + 1 - (j + 1))
                case measure => have := HGJ.out; omega
                case rel => exact ⟨j + 1, _, rfl, by omega, rfl, by go_num, B2, Lib.hid (by rw [HAS.out, hN2.out]; exact R2.out)⟩
        · obtain rfl : j = ns + 1 := by omega
          have d2 : ¬ ((ns + 1 : Nat) : Int) ≤ (ns : Int) := by omega
          have hr2 := Lib.hid (show RowL wi w.heap.size v (solK f n (ns + 1) ((i + 1) * (ns + 1))) from by rw [← HS.out]; exact hr.out)
          clear hr
          go_wp2_with fail
          go_roundg (ns + 1 - (i + 1))
          case measure => have := HGK.out; omega
          case rel => exact ⟨i + 1, _, rfl, by omega, rfl, by go_num, hB, hr2⟩
    · obtain rfl : i = ns + 1 := by omega
      have d1 : ¬ ((ns + 1 : Nat) : Int) ≤ (ns : Int) := by omega
      go_wp2_with fail
      go_ret
      exact HN.out _ _ hr.out hB
end Go.Proofs.Ytacabmbajadbgaa
/- contracts: all pegs that fit, the program -/
namespace Go.Proofs.Ytacabmbajadbgaa
open Go.ChangeShapes Go.WideShapes Go.ChangeAt Go.RowKit Go.Joins
set_option linter.unusedVariables false
set_option linter.unusedSimpArgs false
set_option maxRecDepth 4000
theorem row_made0 {w W : World} (hb : Below w.heap.size w W) (f : Nat → Int × Int) (n : Nat) (hn : n ≤ 1000) :
    Row (W.alloc (.cells (madeCells #[.int .i64 0, .int .i64 0] (n * 2)) 53)) w.heap.size (.slice (some ⟨W.heap.size, 0, none⟩) 0 n) f 0 :=
  World.ownsRow_made (base := w.heap.size) (e := 53) (size := 2) W _ n hb.size (by unfold maxLen; omega) (size_madeCells _ _)
set_option maxHeartbeats 2000000 in
theorem boardPegs13_any (nw nh : Nat) (w : World) (h1 : nw ≤ 13) (h2 : nh ≤ 13) :
    Calls Try.prog 97 #[.agg #[.int .i64 nw, .int .i64 nh]] w (RetP w (firsts (bX nh) (nw * nh))) := by
  obtain ⟨i0, hi0, hz0, hz1, hz2⟩ := info_parts peg_info
  have HI := Lib.hid (And.intro hi0 (And.intro hz0 (And.intro hz1 hz2)))
  have h3 : nw * nh ≤ 169 := Nat.le_trans (Nat.mul_le_mul h1 h2) (Nat.le_refl _)
  have hmk := fun W => run_make (P := Try.prog) W 61 53 i0 _ Try.underlying61 hi0 hz0 .i64 .i64 (0 : Int) ((nw : Int) * (nh : Int)) (by omega) (by rw [← Int.natCast_mul]; omega) (by rw [hz2, ← Int.natCast_mul]; omega) (by rw [← Int.natCast_mul]; omega)
  have h4 : ((nw : Int) * (nh : Int)).toNat = nw * nh := by rw [← Int.natCast_mul]; omega
  have h5 : 0 ≤ (nw : Int) * (nh : Int) ∧ (nw : Int) * (nh : Int) ≤ 169 := by rw [← Int.natCast_mul]; omega
  obtain ⟨h6, h7⟩ := h5
  simp only [Int.toNat_zero, h4, hz1] at hmk
  clear hi0 hz0 hz1 hz2 h4
  have HX : Hid (∀ i j, j < nh → bX nh (i * nh + j) = ((i : Int), (j : Int))) := Lib.hid (fun i j h => bX_row i h)
  have HM : Hid (∀ i j, i < nw → j ≤ nh → i * nh + j ≤ 169) := Lib.hid (fun i j hi hj => by
    have := Nat.mul_le_mul (show i + 1 ≤ 13 by omega) h2
    rw [Nat.add_mul] at this
    omega)
  have HS : Hid (∀ i, i * nh + nh = (i + 1) * nh) := Lib.hid (fun i => by rw [Nat.add_mul, Nat.one_mul])
  have HN : Hid (∀ v W W0, Below w.heap.size w W0 → w.heap.size ≤ W0.heap.size → Row W W0.heap.size v (bX nh) (nw * nh) → Below W0.heap.size W0 W → RetP w (firsts (bX nh) (nw * nh)) (.returned v) W) := Lib.hid (fun v W W0 h0 hz h hb => by
    obtain ⟨A, c, rfl, q1, q2, q3⟩ := row_out h
    refine ⟨A, c, by rw [firsts_len], by rw [firsts_len]; exact q1, q2, h0.trans (hb.mono hz), ?_⟩
    rw [firsts_len]
    exact rw_more (rw_same q3 fun i hi => (firsts_pt (bX nh) _ i hi).symm) hz (Nat.le_refl _))
  generalize bX nh = f at *
  go_enter Try.func97, Try.ntmps97
  go_wp2_with fail
  obtain ⟨W0, hW0⟩ : ∃ W0, W0 = (w.alloc (.cells #[.int .i64 ((nw : Int)), .int .i64 ((nh : Int))] 88)) := ⟨_, rfl⟩
  rw [← hW0]
  have yW00_0 : W0.cell? ⟨w.heap.size, 0, none⟩ = some (.int .i64 ((nw : Int))) := by rw [hW0]; go_simp
  have yW00_1 : W0.cell? ⟨w.heap.size, 1, none⟩ = some (.int .i64 ((nh : Int))) := by rw [hW0]; go_simp
  have fW00 : ∀ o, W0.frozen? ⟨w.heap.size, o, none⟩ = false := by intro o; rw [hW0]; (repeat rw [frozen?_alloc_cells]); simp [World.frozen?]
  have zW00 : w.heap.size < W0.heap.size := by rw [hW0]; simp <;> omega
  have BW0 : Below w.heap.size w W0 := by rw [hW0]; exact (Below.alloc (Below.refl _ _) (by simp <;> omega) _)
  have eW0 : Hid (W0.heap.size = w.heap.size + 1) := Lib.hid (by rw [hW0]; simp)
  clear hW0
  have HR0 : Hid (Row (W0.alloc (.cells (madeCells #[.int .i64 0, .int .i64 0] (nw * nh * 2)) 53)) W0.heap.size (.slice (some ⟨w.heap.size + 1, 0, none⟩) 0 (nw * nh)) f 0) := Lib.hid (by
    rw [show w.heap.size + 1 = W0.heap.size from eW0.out.symm]
    exact row_made0 (w := W0) (W := W0) (Below.refl _ _) f (nw * nh) (by omega))
  have hB0 := Below.alloc (Below.refl W0.heap.size W0) (Nat.le_refl _) (.cells (madeCells #[.int .i64 0, .int .i64 0] (nw * nh * 2)) 53)
  clear hmk
  go_loopg [3, 14] nw (fun g s x wr => ∃ (i : Nat) (v : Value), v = s ∧ i ≤ nw ∧ g = nw - i ∧ x = .int .i64 i ∧ Below W0.heap.size W0 wr ∧ Hid (Row wr W0.heap.size v f (i * nh)))
  case atStart => exact ⟨0, _, rfl, Nat.zero_le _, rfl, rfl, hB0, Lib.hid (by rw [Nat.zero_mul]; exact HR0.out)⟩
  case round =>
    clear hB0 HR0
    obtain ⟨i, v, rfl, hi, hg, rfl, hB, hr⟩ := hrel
    rename World => wo
    have HGK := Lib.hid hg
    clear hg
    have c0 := ((bcell hB).1 _ _ zW00).trans yW00_0
    have c1 := ((bcell hB).1 _ _ zW00).trans yW00_1
    by_cases hlt : i < nw
    · go_wp2_with fail
      go_loopg [3, 19] nh (fun g s y wr => ∃ (j : Nat) (v : Value), v = s ∧ j ≤ nh ∧ g = nh - j ∧ y = .int .i64 j ∧ Below W0.heap.size W0 wr ∧ Hid (Row wr W0.heap.size v f (i * nh + j)))
      case atStart => exact ⟨0, _, rfl, Nat.zero_le _, rfl, rfl, hB, hr⟩
      case round =>
        clear hB hr c0 c1
        rename Value => v0
        obtain ⟨j, v, rfl, hj, hg, rfl, hB, hr⟩ := hrel
        rename World => wi
        have HGJ := Lib.hid hg
        clear hg
        have c0 := ((bcell hB).1 _ _ zW00).trans yW00_0
        have c1 := ((bcell hB).1 _ _ zW00).trans yW00_1
        by_cases hlj : j < nh
        · have hzB := hB.size
          have hm := HM.out i j hlt hj
          have HXX := Lib.hid (HX.out i j hlj)
          have RA := Lib.hid (row_alloc hr.out (.cells #[.int .i64 (i : Int), .int .i64 (j : Int)] 53))
          have BA := Lib.hid (Below.alloc hB hzB (.cells #[.int .i64 (i : Int), .int .i64 (j : Int)] 53))
          clear hr
          generalize hK : i * nh + j = k at *
          have HK := Lib.hid hK
          clear hK
          go_wp2_with (at_builtin; refine wpList_append_own _ rfl (.tmp 22) (.tmp 26) 61 rfl W0.heap.size 53 i0 (.agg #[.int .i64 0, .int .i64 0]) 2 16 Try.underlying61 HI.out.1 HI.out.2.1 HI.out.2.2.1 HI.out.2.2.2 rfl (by decide) _ k (flat (firsts f k)) rfl RA.out ⟨wi.heap.size, 0, none⟩ 1 1 [.int .i64 (i : Int), .int .i64 (j : Int)] rfl rfl (two_cells (by go_simp) (by go_simp)) (two_one _ _) (by unfold maxLen; omega) (by omega) (by simp; omega) ?_)
          intro v' w1 hown hgr _
          have RB := row_push (f := f) BA.out RA.out (by rw [HXX.out]; exact hown) hgr
          have R1 := Lib.hid RB.1
          have B1 := RB.2
          clear RB hown hgr BA RA
          go_wp2_with fail
          go_roundg (nh - (j + 1))
          case measure => have := HGJ.out; omega
          case rel => exact ⟨j + 1, _, rfl, by omega, rfl, by go_num, B1, Lib.hid (by rw [← Nat.add_assoc, HK.out]; exact R1.out)⟩
        · obtain rfl : j = nh := by omega
          have hr2 := Lib.hid (show Row wi W0.heap.size v f ((i + 1) * j) from by rw [← HS.out]; exact hr.out)
          clear hr
          go_wp2_with fail
          go_roundg (nw - (i + 1))
          case measure => have := HGK.out; omega
          case rel => exact ⟨i + 1, _, rfl, by omega, rfl, by go_num, hB, hr2⟩
    · obtain rfl : i = nw := by omega
      go_wp2_with fail
      go_ret
      exact HN.out _ _ W0 BW0 (by have := eW0.out; omega) hr.out hB
set_option maxHeartbeats 2000000 in
theorem solutions_any (ns : Nat) (A : Option Addr) (c n : Nat) (f : Nat → Int) (w : World) (hp : puzB (ns : Int) n f = true) (hR : RdI w w.heap.size A (n * 4) f) :
    Calls Try.prog 67 #[.agg #[.int .i64 (ns : Int), .slice A n c]] w (RetP w (solK f n (ns + 1) ((ns + 1) * (ns + 1)))) := by
  obtain ⟨s1, s2, hn, hcl⟩ := puzB_t hp
  obtain ⟨i0, hi0, hz0, hz1, hz2⟩ := info_parts peg_info
  have HI := Lib.hid (And.intro hi0 (And.intro hz0 (And.intro hz1 hz2)))
  clear hi0 hz0 hz1 hz2
  have KS := Lib.hid (fun W => sideBoard_any (ns : Int) W s1 s2)
  have KP := Lib.hid (fun W => boardPegs13_any (ns + 1) (ns + 1) W (by omega) (by omega))
  have KF := Lib.hid (fun W (hb : Below w.heap.size w W) (p1 p2 : Int) (g1 : 0 ≤ p1 ∧ p1 ≤ (ns : Int)) (g2 : 0 ≤ p2 ∧ p2 ≤ (ns : Int)) => puzFits_any (ns : Int) A c n f p1 p2 W hp g1 g2 (rdi_below hR hb (Nat.le_refl _)))
  have HXB : Hid (∀ k, k < (ns + 1) * (ns + 1) → (0 ≤ (bX (ns + 1) k).1 ∧ (bX (ns + 1) k).1 ≤ (ns : Int)) ∧ (0 ≤ (bX (ns + 1) k).2 ∧ (bX (ns + 1) k).2 ≤ (ns : Int))) := Lib.hid (fun k hk => by
    unfold bX
    have a : k / (ns + 1) < ns + 1 := Nat.div_lt_of_lt_mul hk
    have b : k % (ns + 1) < ns + 1 := Nat.mod_lt k (show 0 < ns + 1 by omega)
    simp only
    generalize k / (ns + 1) = x at *
    generalize k % (ns + 1) = y at *
    omega)
  have HYes := Lib.hid (fun k (h : allF f (bX (ns + 1) k).1 (bX (ns + 1) k).2 n = true) => solK_yes (f := f) (n := n) (m := ns + 1) h)
  have HNo := Lib.hid (fun k (h : allF f (bX (ns + 1) k).1 (bX (ns + 1) k).2 n = false) => solK_no (f := f) (n := n) (m := ns + 1) h)
  have H0 : Hid (solK f n (ns + 1) 0 = []) := Lib.hid rfl
  have hM : (ns + 1) * (ns + 1) ≤ 169 := Nat.le_trans (Nat.mul_le_mul (show ns + 1 ≤ 13 by omega) (show ns + 1 ≤ 13 by omega)) (Nat.le_refl _)
  have HL : Hid (∀ k, k ≤ (ns + 1) * (ns + 1) → (solK f n (ns + 1) k).length ≤ 400) := Lib.hid (fun k hk => by have := solK_len f n (ns + 1) k; omega)
  have HN : Hid (∀ v W W2, Below w.heap.size w W2 → RowL W W2.heap.size v (solK f n (ns + 1) ((ns + 1) * (ns + 1))) → Below W2.heap.size W2 W → RetP w (solK f n (ns + 1) ((ns + 1) * (ns + 1))) (.returned v) W) := Lib.hid (fun v W W2 h0 h hb => by
    obtain ⟨A9, c9, e9, g1, g2, g3, g4⟩ := retP_rowL h hb
    exact ⟨A9, c9, e9, g1, g2, h0.trans (g3.mono h0.size), rw_more g4 h0.size (Nat.le_refl _)⟩)
  have HG : Hid (∀ k, k < (ns + 1) * (ns + 1) → pt (firsts (bX (ns + 1)) ((ns + 1) * (ns + 1))) k = bX (ns + 1) k) := Lib.hid (fun k hk => firsts_pt _ _ _ hk)
  have P0 := Lib.hid (pbx_new w (ns : Int) A n c 28)
  have cs : ((ns : Int) + 1) = ((ns + 1 : Nat) : Int) := by omega
  rw [cs] at KS
  clear hp hR hcl s1 s2 cs
  generalize (ns + 1) * (ns + 1) = M at *
  go_enter Try.func67, Try.ntmps67
  go_wp2_with fail
  obtain ⟨W0, hW0⟩ : ∃ W0, W0 = w.alloc (.cells #[.int .i64 (ns : Int), .slice A n c] 28) := ⟨_, rfl⟩
  have B0 : Below w.heap.size w W0 := by rw [hW0]; exact Below.alloc (Below.refl _ _) (Nat.le_refl _) _
  have PB := P0.out
  rw [← hW0] at PB ⊢
  clear hW0 P0
  refine (KS.out _).mono ?_; rintro e w1 ⟨rfl, hb1⟩
  have B1 := B0.trans (hb1.mono B0.size)
  have P1 := pbx_below PB hb1
  clear hb1 PB B0 KS
  go_wp2_with fail
  refine (KP.out _).mono ?_; rintro e w2 ⟨A2, c2, rfl, q1, q2, hb2, q3⟩
  rw [firsts_len] at q1 q3
  have B2 := B1.trans (hb2.mono B1.size)
  have P2 := Lib.hid (pbx_below P1 hb2)
  have HQ := Lib.hid q3
  have hl : (firsts (bX (ns + 1)) M).length = M := firsts_len _ _
  clear hb2 P1 B1 q3 q1 q2 KP
  go_wp2_with fail
  go_loopg [3, 11] M (fun g o x wr => ∃ (k : Nat) (v : Value), v = o ∧ k ≤ M ∧ g = M - k ∧ x = .int .i64 (k : Int) ∧ Below w2.heap.size w2 wr ∧ Hid (RowL wr w2.heap.size v (solK f n (ns + 1) k)))
  case atStart => exact ⟨0, _, rfl, Nat.zero_le _, rfl, rfl, Below.refl _ _, Lib.hid (by rw [H0.out]; exact rowL_nil _ _)⟩
  case round =>
    obtain ⟨k, v, rfl, hk, hg, rfl, hB, hr⟩ := hrel
    rename World => wo
    have HGK := Lib.hid hg
    clear hg
    have BB := B2.trans (hB.mono B2.size)
    by_cases hlt : k < M
    · obtain ⟨b, off, rfl, hb1, hb2, hcell⟩ := HQ.out (by omega)
      have hx := (hcell k hlt).1
      rw [HG.out k hlt] at hx
      obtain ⟨x0, x1⟩ := hx
      have x0' := ((bcell hB).1 _ _ hb2).trans x0
      have x1' := ((bcell hB).1 _ _ hb2).trans x1
      have hbo : b < wo.heap.size := Nat.lt_of_lt_of_le hb2 hB.size
      have p0 := ((bcell hB).1 _ _ P2.out.z).trans P2.out.c0
      have p1 := ((bcell hB).1 _ _ P2.out.z).trans P2.out.c1
      have pz := Nat.lt_of_lt_of_le P2.out.z hB.size
      have hzo := hB.size
      obtain ⟨g1, g2⟩ := HXB.out k hlt
      have K1 := Lib.hid (fun W hb => KF.out W hb (bX (ns + 1) k).1 (bX (ns + 1) k).2 g1 g2)
      have HY := Lib.hid (HYes.out k)
      have HO := Lib.hid (HNo.out k)
      have hm := HL.out k hk
      clear hcell x0 x1 g1 g2
      generalize hbx : bX (ns + 1) k = bx at *
      obtain ⟨bx1, bx2⟩ := bx
      simp only at x0' x1' K1 HY HO
      clear hbx
      generalize solK f n (ns + 1) k = m at *
      go_wp2_with fail
      obtain ⟨W1, hW1⟩ : ∃ W1, W1 = (wo.alloc (.cells #[.int .i64 bx1, .int .i64 bx2] 53)) := ⟨_, rfl⟩
      rw [← hW1]
      have yW10_0 : W1.cell? ⟨wo.heap.size, 0, none⟩ = some (.int .i64 bx1) := by rw [hW1]; go_simp
      have yW10_1 : W1.cell? ⟨wo.heap.size, 1, none⟩ = some (.int .i64 bx2) := by rw [hW1]; go_simp
      have fW10 : ∀ o, W1.frozen? ⟨wo.heap.size, o, none⟩ = false := by intro o; rw [hW1]; (repeat rw [frozen?_alloc_cells]); simp [World.frozen?]
      have zW10 : wo.heap.size < W1.heap.size := by rw [hW1]; simp <;> omega
      have BW1 : Below wo.heap.size wo W1 := by rw [hW1]; exact (Below.alloc (Below.refl _ _) (by simp <;> omega) _)
      have eW1 : Hid (W1.heap.size = wo.heap.size + 1) := Lib.hid (by rw [hW1]; simp)
      clear hW1
      have RA := Lib.hid (rowL_below hr.out BW1 (Nat.le_refl _))
      have BA := hB.trans (BW1.mono hzo)
      have BAA := BB.trans (BW1.mono BB.size)
      have u0 := (BW1.cell (p := ⟨w.heap.size, 0, none⟩) pz).trans p0
      have u1 := (BW1.cell (p := ⟨w.heap.size, 1, none⟩) pz).trans p1
      refine (K1.out _ BAA).mono ?_; rintro e w4 ⟨rfl, hb4⟩
      have RB := Lib.hid (rowL_below RA.out hb4 (Nat.le_refl _))
      have B4 := BA.trans (hb4.mono BA.size)
      have v0 := ((bcell hb4).1 _ _ zW10).trans yW10_0
      have v1 := ((bcell hb4).1 _ _ zW10).trans yW10_1
      have zv := Nat.lt_of_lt_of_le zW10 hb4.size
      have hz4 := B4.size
      clear hb4 RA BA BAA hr hB BB fW10 eW1 BW1 yW10_0 yW10_1 zW10 x0' x1' p0 p1 u0 u1 K1
      cases ha : allF f bx1 bx2 n
      · have hN2 := Lib.hid (HO.out ha)
        clear ha HY HO v0 v1
        go_wp2_with fail
        go_roundg (M - (k + 1))
        case measure => have := HGK.out; omega
        case rel => exact ⟨k + 1, v, rfl, by omega, rfl, by go_num, B4, Lib.hid (by rw [hN2.out]; exact RB.out)⟩
      · have hN2 := Lib.hid (HY.out ha)
        clear ha HY HO
        go_wp2_with (at_builtin; go_loud (refine wpList_append_own _ rfl (.tmp 18) (.tmp 20) 61 rfl w2.heap.size 53 i0 (.agg #[.int .i64 0, .int .i64 0]) 2 16 Try.underlying61 HI.out.1 HI.out.2.1 HI.out.2.2.1 HI.out.2.2.2 rfl (by decide) _ m.length (flat m) rfl (rowL_alloc RB.out _) ⟨w4.heap.size, 0, none⟩ 1 1 [.int .i64 bx1, .int .i64 bx2] rfl rfl (two_cells (by go_simp) (by go_simp)) (two_one _ _) (by unfold maxLen; omega) (by omega) (by simp; omega) ?_))
        intro v' w5 hown hgr _
        have RC := rowL_push (Below.alloc B4 hz4 _) (rowL_alloc RB.out _) hown hgr
        have R2 := Lib.hid RC.1
        have B5 := RC.2
        clear RC hown hgr B4 RB
        go_wp2_with fail
        go_roundg (M - (k + 1))
        case measure => have := HGK.out; omega
        case rel => exact ⟨k + 1, _, rfl, by omega, rfl, by go_num, B5, Lib.hid (by rw [hN2.out]; exact R2.out)⟩
    · obtain rfl : k = M := by omega
      go_wp2_with fail
      go_ret
      exact HN.out _ _ _ B2 hr.out hB
end Go.Proofs.Ytacabmbajadbgaa
/- contracts: Solutions, CountSolutions, IsSolved, on both sides -/
namespace Go.Proofs.Ytacabmbajadbgaa
open Go.ChangeShapes Go.WideShapes Go.ChangeAt Go.RowKit Go.Joins
set_option linter.unusedVariables false
set_option linter.unusedSimpArgs false
set_option maxRecDepth 4000
/-- the solutions of a puzzle -/
noncomputable def solP (s : Int) (n : Nat) (f : Nat → Int) : List (Int × Int) := if puzB s n f = true then solK f n (s.toNat + 1) ((s.toNat + 1) * (s.toNat + 1)) else []
theorem solP_t {ns n : Nat} {f : Nat → Int} (h : puzB (ns : Int) n f = true) : solP (ns : Int) n f = solK f n (ns + 1) ((ns + 1) * (ns + 1)) := by unfold solP; rw [if_pos h]; rfl
theorem solP_f {s : Int} {n : Nat} {f : Nat → Int} (h : puzB s n f = false) : solP s n f = [] := by unfold solP; rw [h]; rfl
theorem nat_of {s : Int} {n : Nat} {f : Nat → Int} (h : puzB s n f = true) : ∃ ns : Nat, s = (ns : Int) := ⟨s.toNat, by have := (puzB_t h).1; omega⟩
theorem solP_len (s : Int) (n : Nat) (f : Nat → Int) : (solP s n f).length ≤ 1048576 := by
  cases h : puzB s n f
  · rw [solP_f h]; simp
  · obtain ⟨ns, rfl⟩ := nat_of h
    have h12 := puzB_t h
    rw [solP_t h]
    have h1 := solK_len f n (ns + 1) ((ns + 1) * (ns + 1))
    have h2 : (ns + 1) * (ns + 1) ≤ 169 := Nat.le_trans (Nat.mul_le_mul (show ns + 1 ≤ 13 by omega) (show ns + 1 ≤ 13 by omega)) (Nat.le_refl _)
    omega
set_option maxHeartbeats 1000000 in
theorem specSolutions_any (s : Int) (A : Option Addr) (c n : Nat) (f : Nat → Int) (w : World) (hm : n ≤ 1048576) (hR : RdI w w.heap.size A (n * 4) f) :
    Calls Try.prog 46 #[.agg #[.int .i64 s, .slice A n c]] w (RetL w (solP s n f) (puzB s n f)) := by
  have K := Lib.hid (fun W (hb : Below w.heap.size w W) => pzGood_any s A c n f W hm (rdi_below hR hb (Nat.le_refl _)))
  have HB := Lib.hid (Below.alloc (Below.refl w.heap.size w) (Nat.le_refl _) (.cells #[.int .i64 s, .slice A n c] 28))
  have P0 := Lib.hid (pbx_new w s A n c 28)
  cases hp : puzB s n f
  · rw [solP_f hp]
    rw [hp] at K
    clear hp hR
    go_enter Try.func46, Try.ntmps46
    go_wp2_with fail
    refine (K.out _ HB.out).mono ?_; rintro e w1 ⟨rfl, hb1⟩
    go_wp2_with fail
    go_ret2
    exact retL_nil (HB.out.trans (hb1.mono HB.out.size))
  · obtain ⟨ns, rfl⟩ := nat_of hp
    rw [solP_t hp]
    have K2 := Lib.hid (fun W (hb : Below w.heap.size w W) => pzAll_any ns A c n f W hp (rdi_below hR hb (Nat.le_refl _)))
    rw [hp] at K
    clear hp hR
    generalize solK f n (ns + 1) ((ns + 1) * (ns + 1)) = m at *
    go_enter Try.func46, Try.ntmps46
    go_wp2_with fail
    refine (K.out _ HB.out).mono ?_; rintro e w1 ⟨rfl, hb1⟩
    have P1 := pbx_below P0.out hb1
    have B1 := HB.out.trans (hb1.mono HB.out.size)
    have p0 := P1.c0
    have p1 := P1.c1
    have pz := P1.z
    clear hb1 P1
    go_wp2_with fail
    refine (K2.out _ B1).mono ?_; rintro e w2 ⟨A2, c2, rfl, q1, q2, hb2, q3⟩
    go_wp2_with fail
    go_ret2
    exact retL_of_P B1 q1 q2 hb2 q3
set_option maxHeartbeats 1000000 in
theorem implSolutions_any (s : Int) (A : Option Addr) (c n : Nat) (f : Nat → Int) (w : World) (hm : n ≤ 1048576) (hR : RdI w w.heap.size A (n * 4) f) :
    Calls Try.prog 47 #[.agg #[.int .i64 s, .slice A n c]] w (RetL w (solP s n f) (puzB s n f)) := by
  have K := Lib.hid (fun W (hb : Below w.heap.size w W) => implIsPuzzle_any s A c n f W (rdi_below hR hb (Nat.le_refl _)))
  have HB := Lib.hid (Below.alloc (Below.refl w.heap.size w) (Nat.le_refl _) (.cells #[.int .i64 s, .slice A n c] 28))
  have P0 := Lib.hid (pbx_new w s A n c 28)
  cases hp : puzB s n f
  · rw [solP_f hp]
    rw [hp] at K
    clear hp hR
    go_enter Try.func47, Try.ntmps47
    go_wp2_with fail
    refine (K.out _ HB.out).mono ?_; rintro e w1 ⟨rfl, hb1⟩
    go_wp2_with fail
    go_ret2
    exact retL_nil (HB.out.trans (hb1.mono HB.out.size))
  · obtain ⟨ns, rfl⟩ := nat_of hp
    rw [solP_t hp]
    have K2 := Lib.hid (fun W (hb : Below w.heap.size w W) => solutions_any ns A c n f W hp (rdi_below hR hb (Nat.le_refl _)))
    rw [hp] at K
    clear hp hR
    generalize solK f n (ns + 1) ((ns + 1) * (ns + 1)) = m at *
    go_enter Try.func47, Try.ntmps47
    go_wp2_with fail
    refine (K.out _ HB.out).mono ?_; rintro e w1 ⟨rfl, hb1⟩
    have P1 := pbx_below P0.out hb1
    have B1 := HB.out.trans (hb1.mono HB.out.size)
    have p0 := P1.c0
    have p1 := P1.c1
    have pz := P1.z
    clear hb1 P1
    go_wp2_with fail
    refine (K2.out _ B1).mono ?_; rintro e w2 ⟨A2, c2, rfl, q1, q2, hb2, q3⟩
    go_wp2_with fail
    go_ret2
    exact retL_of_P B1 q1 q2 hb2 q3
theorem pzSolved_any (ns : Nat) (A : Option Addr) (c n : Nat) (f : Nat → Int) (w : World) (hp : puzB (ns : Int) n f = true) (hR : RdI w w.heap.size A (n * 4) f) :
    Calls Try.prog 71 #[.int .i64 (ns : Int), .slice A n c] w fun e w' => e = .returned (.bool (decide ((solP (ns : Int) n f).length = 1))) ∧ Below w.heap.size w w' := by
  have K := Lib.hid (pzAll_any ns A c n f w hp hR)
  rw [solP_t hp]
  clear hp hR
  generalize solK f n (ns + 1) ((ns + 1) * (ns + 1)) = m at *
  have hq : Hid (decide (((m.length : Nat) : Int) = 1) = decide (m.length = 1)) := Lib.hid (by rw [decide_eq_decide]; omega)
  go_enter Try.func71, Try.ntmps71
  go_wp2_with fail
  refine K.out.mono ?_; rintro e w2 ⟨A2, c2, rfl, q1, q2, hb2, q3⟩
  go_wp2_with fail
  go_ret
  exact ⟨ret_bool (by first | exact hq.out | (rw [← hq.out]; simp)), hb2⟩
theorem specIsSolved_any (s : Int) (A : Option Addr) (c n : Nat) (f : Nat → Int) (w : World) (hm : n ≤ 1048576) (hR : RdI w w.heap.size A (n * 4) f) :
    Calls Try.prog 51 #[.agg #[.int .i64 s, .slice A n c]] w fun e w' => e = .returned (.tuple #[.bool (decide ((solP s n f).length = 1)), .bool (puzB s n f)]) ∧ Below w.heap.size w w' := by
  have K := Lib.hid (fun W (hb : Below w.heap.size w W) => pzGood_any s A c n f W hm (rdi_below hR hb (Nat.le_refl _)))
  have HB := Lib.hid (Below.alloc (Below.refl w.heap.size w) (Nat.le_refl _) (.cells #[.int .i64 s, .slice A n c] 28))
  have P0 := Lib.hid (pbx_new w s A n c 28)
  cases hp : puzB s n f
  · rw [solP_f hp]
    rw [hp] at K
    clear hp hR
    go_enter Try.func51, Try.ntmps51
    go_wp2_with fail
    refine (K.out _ HB.out).mono ?_; rintro e w1 ⟨rfl, hb1⟩
    go_wp2_with fail
    go_ret2
    exact ⟨rfl, HB.out.trans (hb1.mono HB.out.size)⟩
  · obtain ⟨ns, rfl⟩ := nat_of hp
    have K2 := Lib.hid (fun W (hb : Below w.heap.size w W) => pzSolved_any ns A c n f W hp (rdi_below hR hb (Nat.le_refl _)))
    rw [hp] at K
    clear hp hR
    generalize decide ((solP (ns : Int) n f).length = 1) = q at *
    go_enter Try.func51, Try.ntmps51
    go_wp2_with fail
    refine (K.out _ HB.out).mono ?_; rintro e w1 ⟨rfl, hb1⟩
    have P1 := pbx_below P0.out hb1
    have B1 := HB.out.trans (hb1.mono HB.out.size)
    have p0 := P1.c0
    have p1 := P1.c1
    have pz := P1.z
    clear hb1 P1
    go_wp2_with fail
    refine (K2.out _ B1).mono ?_; rintro e w2 ⟨rfl, hb2⟩
    go_wp2_with fail
    go_ret2
    exact ⟨rfl, B1.trans (hb2.mono B1.size)⟩
theorem implIsSolved_any (s : Int) (A : Option Addr) (c n : Nat) (f : Nat → Int) (w : World) (hm : n ≤ 1048576) (hR : RdI w w.heap.size A (n * 4) f) :
    Calls Try.prog 52 #[.agg #[.int .i64 s, .slice A n c]] w fun e w' => e = .returned (.tuple #[.bool (decide ((solP s n f).length = 1)), .bool (puzB s n f)]) ∧ Below w.heap.size w w' := by
  have K := Lib.hid (fun W (hb : Below w.heap.size w W) => implSolutions_any s A c n f W hm (rdi_below hR hb (Nat.le_refl _)))
  have HB := Lib.hid (Below.alloc (Below.refl w.heap.size w) (Nat.le_refl _) (.cells #[.int .i64 s, .slice A n c] 28))
  clear hR
  generalize solP s n f = m at *
  generalize puzB s n f = b at *
  have hq : Hid (decide (((m.length : Nat) : Int) = 1) = decide (m.length = 1)) := Lib.hid (by rw [decide_eq_decide]; omega)
  go_enter Try.func52, Try.ntmps52
  go_wp2_with fail
  refine (K.out _ HB.out).mono ?_; rintro e w1 ⟨A2, c2, rfl, q1, q2, hb2, q3⟩
  go_wp2_with fail
  go_ret2
  exact ⟨by rw [← hq.out]; rfl, HB.out.trans (hb2.mono HB.out.size)⟩
end Go.Proofs.Ytacabmbajadbgaa
/- contracts: a part of a puzzle's clues -/
namespace Go.Proofs.Ytacabmbajadbgaa
open Go.ChangeShapes Go.WideShapes Go.ChangeAt Go.RowKit Go.Joins
set_option linter.unusedVariables false
set_option linter.unusedSimpArgs false
set_option maxRecDepth 4000
theorem pbx_two (w : World) (s : Int) (A : Option Addr) (n c : Nat) (T T' : TypeId) : ∃ W, W = (w.alloc (.cells #[.int .i64 s, .slice A n c] T)).alloc (.cells #[.int .i64 0, .slice none 0 0] T') ∧ Below w.heap.size w W ∧ w.heap.size + 1 < W.heap.size ∧ W.cell? ⟨w.heap.size, 0, none⟩ = some (.int .i64 s) ∧ W.cell? ⟨w.heap.size, 1, none⟩ = some (.slice A n c) ∧ W.cell? ⟨w.heap.size + 1, 0, none⟩ = some (.int .i64 0) ∧ W.cell? ⟨w.heap.size + 1, 1, none⟩ = some (.slice none 0 0) ∧ (∀ o, W.frozen? ⟨w.heap.size + 1, o, none⟩ = false) := by
  have e : w.heap[w.heap.size + 1]? = none := Array.getElem?_eq_none (by omega)
  exact ⟨_, rfl, Below.alloc (Below.alloc (Below.refl _ _) (Nat.le_refl _) _) (by simp) _, by simp, by go_simp, by go_simp, by go_simp, by go_simp, fun o => by (repeat rw [frozen?_alloc_cells]); simp [World.frozen?, e]⟩
theorem pbx_set {W : World} {b : Nat} {s : Int} {A : Option Addr} {n c : Nat} {a : Addr} (h : Pbx W b s A n c) (u : Value) (ha : a.block ≠ b) : Pbx (W.setCell a u) b s A n c := by
  have hc : ∀ o, (W.setCell a u).cell? ⟨b, o, none⟩ = W.cell? ⟨b, o, none⟩ := fun o => World.cell?_setCell_other _ _ _ _ (fun e => ha (by rw [e]))
  exact ⟨by simpa [World.setCell] using h.z, (hc 0).trans h.c0, (hc 1).trans h.c1⟩
set_option maxHeartbeats 2000000 in
theorem part_any (s : Int) (bk off c n a b : Nat) (w : World) (hab : a ≤ b) (hbn : b ≤ n) (hnc : n ≤ c) (hc : c ≤ 9223372036854775807) :
    Calls Try.prog 65 #[.agg #[.int .i64 s, .slice (some ⟨bk, off, none⟩) n c], .int .i64 (a : Int), .int .i64 (b : Int)] w fun e w' => (∃ A', e = .returned (.agg #[.int .i64 s, .slice A' (b - a) (b - a)]) ∧ (a < b → A' = some ⟨bk, off + a * 4, none⟩)) ∧ Below w.heap.size w w' := by
  obtain ⟨W, hW, B0, z, c0, c1, r0, r1, fr⟩ := pbx_two w s (some ⟨bk, off, none⟩) n c 28 28
  have h1 : (a : Int) ≤ (b : Int) := by omega
  have h2 : (b : Int) ≤ (c : Int) := by omega
  have z1 : w.heap.size < W.heap.size := by omega
  have hbc : b ≤ c := by omega
  have f0 := fr 0
  have f1 := fr 1
  clear fr
  by_cases hlt : a < b
  · have hne : ¬ b - a = 0 := by omega
    have hne2 : ¬ b = a := by omega
    go_enter Try.func65, Try.ntmps65
    go_wp2_with fail
    rw [← hW]
    clear hW
    go_region
    all_goals
      go_wp2_with fail
      refine bodyPost_ret (v := .agg #[.int .i64 s, .slice (some ⟨bk, off + a * 4, none⟩) (b - a) (b - a)]) (by simp [results, Try.results65, go_sem, c0, c1, r0, r1, z, z1]) rfl ⟨⟨_, rfl, fun _ => rfl⟩, ?_⟩
      repeat (first | with_reducible assumption | with_reducible exact Below.refl _ _ | with_reducible apply Below.drew | ((with_reducible refine Below.setCell ?_ ?_ _); rotate_left; (first | exact Nat.le_refl _ | omega | (simp <;> omega))) | ((with_reducible refine Below.alloc ?_ ?_ _); rotate_left; (first | omega | (simp <;> omega))))
  · obtain rfl : a = b := by omega
    go_enter Try.func65, Try.ntmps65
    go_wp2_with fail
    rw [← hW]
    clear hW
    go_region
    all_goals
      go_wp2_with fail
      refine bodyPost_ret (v := .agg #[.int .i64 s, .slice (some ⟨bk, off, none⟩) (a - a) (a - a)]) (by simp [results, Try.results65, go_sem, c0, c1, r0, r1, z, z1]) rfl ⟨⟨_, rfl, fun h => absurd h (by omega)⟩, ?_⟩
      repeat (first | with_reducible assumption | with_reducible exact Below.refl _ _ | with_reducible apply Below.drew | ((with_reducible refine Below.setCell ?_ ?_ _); rotate_left; (first | exact Nat.le_refl _ | omega | (simp <;> omega))) | ((with_reducible refine Below.alloc ?_ ?_ _); rotate_left; (first | omega | (simp <;> omega))))
end Go.Proofs.Ytacabmbajadbgaa
/- contracts: how many pegs fit some of the clues; the least of a list of numbers, and its index -/
namespace Go.Proofs.Ytacabmbajadbgaa
open Go.ChangeShapes Go.WideShapes Go.ChangeAt Go.RowKit Go.Joins
set_option linter.unusedVariables false
set_option linter.unusedSimpArgs false
set_option maxRecDepth 4000
theorem puzB_part {s : Int} {n : Nat} {f : Nat → Int} (h : puzB s n f = true) {a b : Nat} (hbn : b ≤ n) : puzB s (b - a) (fun i => f (a * 4 + i)) = true := by
  obtain ⟨h1, h2, h3, h4⟩ := puzB_t h
  have e : inQ 1 12 s = true := by unfold inQ; simp [h1, h2]
  have e2 : allC s (fun i => f (a * 4 + i)) (b - a) = true := (allC_iff _ _ _).2 (fun i hi => by
    have := h4 (a + i) (by omega)
    rw [show (a + i) * 4 = a * 4 + i * 4 by omega, show a * 4 + i * 4 + 1 = a * 4 + (i * 4 + 1) by omega, show a * 4 + i * 4 + 2 = a * 4 + (i * 4 + 2) by omega, show a * 4 + i * 4 + 3 = a * 4 + (i * 4 + 3) by omega] at this
    exact this)
  unfold puzB
  rw [e, e2]
  simp
  omega
theorem rdi_part {w : World} {B bk off n a b : Nat} {A' : Option Addr} {f : Nat → Int} (h : RdI w B (some ⟨bk, off, none⟩) (n * 4) f) (hA : a < b → A' = some ⟨bk, off + a * 4, none⟩) (hbn : b ≤ n) : RdI w B A' ((b - a) * 4) (fun i => f (a * 4 + i)) := by
  intro h0
  obtain ⟨b', o', e, hb, hc⟩ := h (by omega)
  injection e with e
  injection e with e1 e2
  subst e1 e2
  exact ⟨bk, off + a * 4, hA (by omega), hb, fun i hi => by
    have := hc (a * 4 + i) (by omega)
    rw [← Nat.add_assoc] at this
    exact this⟩
/-- the pegs that fit the clues a to b - 1 -/
noncomputable def solC (ns : Nat) (f : Nat → Int) (a b : Nat) : List (Int × Int) := solK (fun i => f (a * 4 + i)) (b - a) (ns + 1) ((ns + 1) * (ns + 1))
theorem solC_len {ns : Nat} (h : ns ≤ 12) (f : Nat → Int) (a b : Nat) : (solC ns f a b).length ≤ 169 := by
  have h1 := solK_len (fun i => f (a * 4 + i)) (b - a) (ns + 1) ((ns + 1) * (ns + 1))
  have h2 : (ns + 1) * (ns + 1) ≤ 13 * 13 := Nat.mul_le_mul (by omega) (by omega)
  unfold solC
  omega
/-- the first index of the least number so far, and that number -/
def bst (g : Nat → Nat) : Nat → Nat × Nat
  | 0 => (0, 0)
  | k + 1 => if k = 0 ∨ g k < (bst g k).2 then (k, g k) else bst g k
def mnN (g : Nat → Nat) : Nat → Nat
  | 0 => g 0
  | k + 1 => min (mnN g k) (g k)
theorem bst_is (g : Nat → Nat) : ∀ n, 0 < n → (bst g n).1 < n ∧ g (bst g n).1 = (bst g n).2 ∧ (∀ j, j < n → (bst g n).2 ≤ g j) ∧ ∀ j, j < (bst g n).1 → (bst g n).2 < g j
  | 0, h => absurd h (Nat.lt_irrefl _)
  | k + 1, _ => by
    unfold bst
    split
    · rename_i hc
      refine ⟨Nat.lt_succ_self k, rfl, fun j hj => ?_, fun j hj => ?_⟩
      · rcases Nat.lt_or_ge j k with h | h
        · rcases hc with hc | hc
          · omega
          · have := (bst_is g k (by omega)).2.2.1 j h
            simp only
            omega
        · obtain rfl : j = k := by omega
          exact Nat.le_refl _
      · simp only at hj ⊢
        rcases hc with hc | hc
        · omega
        · have := (bst_is g k (by omega)).2.2.1 j hj
          omega
    · rename_i hc
      have hk : 0 < k := by omega
      obtain ⟨h1, h2, h3, h4⟩ := bst_is g k hk
      refine ⟨by omega, h2, fun j hj => ?_, h4⟩
      rcases Nat.lt_or_ge j k with h | h
      · exact h3 j h
      · obtain rfl : j = k := by omega
        omega
theorem mn_le (g : Nat → Nat) : ∀ n j, j < n → mnN g n ≤ g j
  | 0, j, h => absurd h (Nat.not_lt_zero _)
  | k + 1, j, h => by
    rw [mnN]
    rcases Nat.lt_or_ge j k with g1 | g1
    · have := mn_le g k j g1; omega
    · obtain rfl : j = k := by omega
      omega
theorem mn_ge (g : Nat → Nat) (x : Nat) : ∀ n, x ≤ g 0 → (∀ j, j < n → x ≤ g j) → x ≤ mnN g n
  | 0, h, _ => h
  | k + 1, h, h2 => by
    have := mn_ge g x k h (fun j hj => h2 j (by omega))
    have := h2 k (by omega)
    rw [mnN]
    omega
theorem mn_is (g : Nat → Nat) {n : Nat} (h : 0 < n) : mnN g n = (bst g n).2 := by
  obtain ⟨h1, h2, h3, h4⟩ := bst_is g n h
  have a := mn_le g n _ h1
  have b := mn_ge g (bst g n).2 n (h3 0 h) h3
  omega
theorem min_ifN (x y : Nat) : (if (y : Int) < (x : Int) then Value.int .i64 (y : Int) else Value.int .i64 (x : Int)) = Value.int .i64 ((min x y : Nat) : Int) := by
  split
  · rw [Nat.min_eq_right (by omega)]
  · rw [Nat.min_eq_left (by omega)]
theorem min_ifI (x y : Nat) : (if (y : Int) < (x : Int) then (y : Int) else (x : Int)) = ((min x y : Nat) : Int) := by
  split
  · rw [Nat.min_eq_right (by omega)]
  · rw [Nat.min_eq_left (by omega)]
set_option maxHeartbeats 1000000 in
theorem slMin_any (bk c n : Nat) (g : Nat → Nat) (w : World) (h0 : 0 < n) (hn : n ≤ 1048576) (hR : RdI w w.heap.size (some ⟨bk, 0, none⟩) n (fun i => (g i : Int))) :
    Calls Try.prog 69 #[.slice (some ⟨bk, 0, none⟩) n c] w fun e w' => e = .returned (.int .i64 (mnN g n : Int)) ∧ Below w.heap.size w w' := by
  obtain ⟨b, off, e, hb, hc⟩ := hR h0
  injection e with e
  injection e with e1 e2
  subst e1 e2
  have HC := Lib.hid hc
  have hx0 := hc 0 h0
  simp only [Nat.zero_add] at hx0
  have hm0 : Hid ((g 0 : Int) = (mnN g 1 : Int)) := Lib.hid (by simp [mnN])
  have HS : Hid (∀ k, ((min (mnN g k) (g k) : Nat) : Int) = (mnN g (k + 1) : Int)) := Lib.hid (fun k => rfl)
  have h1 : ¬ ((n : Int) < 1) := by omega
  have h2 : (0 : Int) < (n : Int) := by omega
  clear hc
  go_enter Try.func69, Try.ntmps69
  go_wp2_with fail
  go_loopg [3, 4] n (fun gg a i wr => ∃ k : Nat, 1 ≤ k ∧ k ≤ n ∧ gg = n + 1 - k ∧ i = .int .i64 (k : Int) ∧ a = .int .i64 (mnN g k : Int) ∧ Below w.heap.size w wr)
  case atStart => exact ⟨1, by omega, by omega, by omega, rfl, by rw [hm0.out], by repeat (first | exact Below.refl _ _ | apply Below.drew)⟩
  case round =>
    obtain ⟨k, hk1, hk, hgg, rfl, rfl, hB⟩ := hrel
    rename World => wo
    have HGK := Lib.hid hgg
    clear hgg
    by_cases hlt : k < n
    · have q := (hB.cell (p := ⟨bk, 0 + k, none⟩) hb).trans (HC.out k hlt)
      rw [Nat.zero_add] at q
      have hbo := Nat.lt_of_lt_of_le hb hB.size
      have s1 := HS.out k
      have M1 : Hid ((g k : Int) < (mnN g k : Int) → (g k : Int) = (mnN g (k + 1) : Int)) := Lib.hid (fun h => by rw [← s1]; omega)
      have M2 : Hid (¬ (g k : Int) < (mnN g k : Int) → (mnN g k : Int) = (mnN g (k + 1) : Int)) := Lib.hid (fun h => by rw [← s1]; omega)
      clear s1
      obtain ⟨m2, hm2⟩ : ∃ m2, m2 = mnN g (k + 1) := ⟨_, rfl⟩
      rw [← hm2] at M1 M2
      have HM := Lib.hid hm2
      clear hm2
      generalize mnN g k = m1 at *
      generalize g k = gk at *
      by_cases hc : (gk : Int) < (m1 : Int)
      · have M := Lib.hid (M1.out hc)
        go_wp2_with fail
        go_roundg (n + 1 - (k + 1))
        case measure => have := HGK.out; omega
        case rel => exact ⟨k + 1, by omega, by omega, rfl, by go_num, by rw [M.out, HM.out], hB⟩
      · have M := Lib.hid (M2.out hc)
        go_wp2_with fail
        go_roundg (n + 1 - (k + 1))
        case measure => have := HGK.out; omega
        case rel => exact ⟨k + 1, by omega, by omega, rfl, by go_num, by rw [M.out, HM.out], hB⟩
    · obtain rfl : k = n := by omega
      go_wp2_with fail
      go_ret
      exact ⟨rfl, hB⟩
set_option maxHeartbeats 1000000 in
theorem slIndex_any (bk c n r : Nat) (g : Nat → Nat) (v : Nat) (w : World) (hr : r < n) (hv : g r = v) (hne : ∀ j, j < r → g j ≠ v) (hn : n ≤ 1048576) (hR : RdI w w.heap.size (some ⟨bk, 0, none⟩) n (fun i => (g i : Int))) :
    Calls Try.prog 68 #[.slice (some ⟨bk, 0, none⟩) n c, .int .i64 (v : Int)] w fun e w' => e = .returned (.int .i64 (r : Int)) ∧ Below w.heap.size w w' := by
  obtain ⟨b, off, e, hb, hc⟩ := hR (by omega)
  injection e with e
  injection e with e1 e2
  subst e1 e2
  have HC := Lib.hid hc
  have HN := Lib.hid hne
  have HV := Lib.hid hv
  clear hc hne hv
  go_enter Try.func68, Try.ntmps68
  go_wp2_with fail
  go_loopg [8] n (fun gg i wr => ∃ k : Nat, k ≤ r ∧ gg = n - k ∧ i = .int .i64 (k : Int) ∧ Below w.heap.size w wr)
  case atStart => exact ⟨0, Nat.zero_le _, rfl, rfl, by repeat (first | exact Below.refl _ _ | apply Below.drew)⟩
  case round =>
    obtain ⟨k, hk, hgg, rfl, hB⟩ := hrel
    rename World => wo
    have HGK := Lib.hid hgg
    clear hgg
    have hlt : k < n := by omega
    have q := (hB.cell (p := ⟨bk, 0 + k, none⟩) hb).trans (HC.out k hlt)
    rw [Nat.zero_add] at q
    have hbo := Nat.lt_of_lt_of_le hb hB.size
    by_cases hkr : k = r
    · subst hkr
      rw [HV.out] at q
      go_wp2_with fail
      go_ret
      exact ⟨rfl, hB⟩
    · have hne := HN.out k (by omega)
      have hne2 : ¬ (v : Int) = (g k : Int) := by omega
      generalize g k = gk at *
      clear hne
      go_wp2_with fail
      go_roundg (n - (k + 1))
      case measure => have := HGK.out; omega
      case rel => exact ⟨k + 1, by omega, rfl, by go_num, hB⟩
end Go.Proofs.Ytacabmbajadbgaa
/- lists of points as cells that are appended: plain parts -/
namespace Go.Proofs.Ytacabmbajadbgaa
open Go.ChangeShapes Go.WideShapes Go.ChangeAt Go.RowKit Go.Joins
set_option linter.unusedVariables false
set_option linter.unusedSimpArgs false
set_option maxRecDepth 4000
theorem wpOp_left {P : Program} {ops : Array Oper} {i : Nat} {o : Oper} {a : Act} {K : Act → World → Prop} {Q : Exit → Act → World → Prop} {w : World} (hi : ops[i]? = some o) (hw : Region.wanted o (yielded ops a.tmps) = true)
    (h : o.wp P a w K Q) : wpOp P ops Q i K a w := by
  unfold wpOp
  simp only [hi, hw, if_true]
  exact Or.inl h
theorem wpOp_val {P : Program} {ops : Array Oper} {i : Nat} {o : Oper} {a : Act} {K : Act → World → Prop} {Q : Exit → Act → World → Prop} {w w' : World} {v : Value} (hi : ops[i]? = some o) (hw : Region.wanted o (yielded ops a.tmps) = true)
    (h1 : (execOp a.eval o).run P w = .ok (.value v) w') (h2 : K (a.put o.dst v) w') : wpOp P ops Q i K a w :=
  wpOp_left hi hw (by unfold Oper.wp; rw [h1]; exact h2)
theorem flat_len (l : List (Int × Int)) : (flat l).length = l.length * 2 := by
  induction l with
  | nil => rfl
  | cons p l ih =>
    show ([Value.int .i64 p.1, .int .i64 p.2] ++ flat l).length = _
    rw [List.length_append, ih, List.length_cons]
    simp
    omega
theorem flat_app (l m : List (Int × Int)) : flat (l ++ m) = flat l ++ flat m := by unfold flat; rw [List.flatMap_append]
theorem flat_one (l : List (Int × Int)) : ∀ u ∈ flat l, u.oneCell' = true := by
  intro u hu
  unfold flat at hu
  rw [List.mem_flatMap] at hu
  obtain ⟨p, _, hp⟩ := hu
  simp at hp
  rcases hp with rfl | rfl <;> rfl
theorem flat_cells {w : World} {b off : Nat} {l : List (Int × Int)} (h : ∀ i, i < l.length → w.cell? ⟨b, off + i * 2, none⟩ = some (.int .i64 (pt l i).1) ∧ w.cell? ⟨b, off + i * 2 + 1, none⟩ = some (.int .i64 (pt l i).2)) :
    ∀ j u, (flat l)[j]? = some u → w.cell? ((⟨b, off, none⟩ : Addr).add j) = some u := by
  intro j u hj
  rw [add_plain]
  have hlt : j < (flat l).length := (List.getElem?_eq_some_iff.1 hj).1
  rw [flat_len] at hlt
  have hi : j / 2 < l.length := by omega
  obtain ⟨f1, f2⟩ := flat_get l (j / 2) hi
  obtain ⟨h1, h2⟩ := h (j / 2) hi
  rcases Nat.mod_two_eq_zero_or_one j with h0 | h0
  · have e : j = j / 2 * 2 := by omega
    rw [e] at hj ⊢
    rw [f1] at hj
    injection hj with hj
    rw [← hj]; exact h1
  · have e : j = j / 2 * 2 + 1 := by omega
    rw [e] at hj ⊢
    rw [f2] at hj
    injection hj with hj
    rw [← hj, ← Nat.add_assoc]; exact h2
end Go.Proofs.Ytacabmbajadbgaa
/- contracts: the clues without one: rows of clues of one's own; the model; slices.Grow and slices.Concat; the program -/
namespace Go.Proofs.Ytacabmbajadbgaa
open Go.ChangeShapes Go.WideShapes Go.ChangeAt Go.RowKit Go.Joins
set_option linter.unusedVariables false
set_option linter.unusedSimpArgs false
set_option maxRecDepth 4000
/-- the numbers of n clues as cells -/
def fl4 (f : Nat → Int) (n : Nat) : List Value := (List.range (n * 4)).map fun i => Value.int .i64 (f i)
theorem fl4_len (f : Nat → Int) (n : Nat) : (fl4 f n).length = n * 4 := by unfold fl4; simp
theorem fl4_get {f : Nat → Int} {n i : Nat} (h : i < n * 4) : (fl4 f n)[i]? = some (.int .i64 (f i)) := by
  unfold fl4
  rw [List.getElem?_map, List.getElem?_range h]; rfl
theorem fl4_one (f : Nat → Int) (n : Nat) : ∀ u ∈ fl4 f n, u.oneCell' = true := by
  intro u hu
  unfold fl4 at hu
  rw [List.mem_map] at hu
  obtain ⟨i, _, rfl⟩ := hu
  rfl
theorem fl4_cells {w : World} {b off n : Nat} {f : Nat → Int} (h : ∀ i, i < n * 4 → w.cell? ⟨b, off + i, none⟩ = some (.int .i64 (f i))) :
    ∀ j u, (fl4 f n)[j]? = some u → w.cell? ((⟨b, off, none⟩ : Addr).add j) = some u := by
  intro j u hj
  rw [add_plain]
  have hlt : j < (fl4 f n).length := (List.getElem?_eq_some_iff.1 hj).1
  rw [fl4_len] at hlt
  rw [fl4_get hlt] at hj
  injection hj with hj
  rw [← hj]
  exact h j hlt
theorem fl4_app (f g h : Nat → Int) (n m : Nat) (h1 : ∀ i, i < n * 4 → h i = f i) (h2 : ∀ i, i < m * 4 → h (n * 4 + i) = g i) : fl4 h (n + m) = fl4 f n ++ fl4 g m := by
  apply List.ext_getElem?
  intro i
  rcases Nat.lt_or_ge i (n * 4) with hi | hi
  · rw [fl4_get (by omega), List.getElem?_append_left (by rw [fl4_len]; exact hi), fl4_get hi, h1 i hi]
  · rw [List.getElem?_append_right (by rw [fl4_len]; exact hi), fl4_len]
    rcases Nat.lt_or_ge i ((n + m) * 4) with hj | hj
    · rw [fl4_get hj, fl4_get (by omega)]
      have := h2 (i - n * 4) (by omega)
      rw [show n * 4 + (i - n * 4) = i by omega] at this
      rw [this]
    · rw [List.getElem?_eq_none (by rw [fl4_len]; exact hj), List.getElem?_eq_none (by rw [fl4_len]; omega)]
/-- a row of n clues of one's own -/
def RowC (w : World) (base : Nat) (v : Value) (n : Nat) (f : Nat → Int) : Prop := w.ownsRow base 38 4 v n (fl4 f n)
theorem rowC_below {w w' : World} {base B : Nat} {v : Value} {n : Nat} {f : Nat → Int} (h : RowC w base v n f) (hb : Below B w w') (hB : w.heap.size ≤ B) : RowC w' base v n f := by
  obtain ⟨h1, h2⟩ := h
  rcases h2 with h2 | ⟨g, cap, cur, hv, hg, hh, r⟩
  · exact ⟨h1, .inl h2⟩
  · have hl := World.ownsRow.lt (w := w) (base := base) (e := 38) (size := 4) (v := v) (n := n) (xs := fl4 f n) ⟨h1, .inr ⟨g, cap, cur, hv, hg, hh, r⟩⟩ g (by rw [hv]; rfl)
    exact ⟨h1, .inr ⟨g, cap, cur, hv, hg, (hb.block g (by omega)).trans hh, r⟩⟩
theorem rowC_rwi {w : World} {base : Nat} {v : Value} {n : Nat} {f : Nat → Int} (h : RowC w base v n f) : ∃ A c, v = .slice A n c ∧ n ≤ c ∧ c ≤ 9223372036854775807 ∧ RwI w base w.heap.size A (n * 4) f := by
  have h0 := h
  obtain ⟨h1, h2⟩ := h
  rcases h2 with ⟨hv, hn⟩ | ⟨g, cap, cur, hv, hg, hh, hc, hm, hs, ht⟩
  · exact ⟨none, 0, by rw [hv, hn], by omega, by omega, fun hp => absurd hp (by omega)⟩
  · subst hv
    refine ⟨some ⟨g, 0, none⟩, cap, rfl, hc, by unfold maxLen at hm; omega, fun hp => ⟨g, 0, rfl, hg, (World.ownsRow.lt h0 g rfl).2, fun i hi => ?_⟩⟩
    rw [Nat.zero_add]
    exact ⟨(World.ownsRow.cellAt h0 i (by omega)).trans (fl4_get hi), World.ownsRow.frozenAt h0 _⟩
/-- the clues without number k -/
def woF (f : Nat → Int) (k i : Nat) : Int := if i < k * 4 then f i else f (i + 4)
theorem wo_parts (f : Nat → Int) {n k : Nat} (hk : k < n) : fl4 (woF f k) (n - 1) = fl4 f k ++ fl4 (fun i => f ((k + 1) * 4 + i)) (n - (k + 1)) := by
  rw [show n - 1 = k + (n - (k + 1)) by omega]
  refine fl4_app _ _ _ _ _ (fun i hi => by unfold woF; rw [if_pos hi]) (fun i hi => ?_)
  unfold woF
  rw [if_neg (by omega)]
  congr 1
  omega
theorem puzB_wo {s : Int} {n : Nat} {f : Nat → Int} (h : puzB s n f = true) {k : Nat} (hk : k < n) : puzB s (n - 1) (woF f k) = true := by
  obtain ⟨h1, h2, h3, h4⟩ := puzB_t h
  have e : inQ 1 12 s = true := by unfold inQ; simp [h1, h2]
  have e2 : allC s (woF f k) (n - 1) = true := (allC_iff _ _ _).2 (fun i hi => by
    rcases Nat.lt_or_ge i k with g | g
    · have := h4 i (by omega)
      unfold woF
      rw [if_pos (by omega), if_pos (by omega), if_pos (by omega), if_pos (by omega)]
      exact this
    · have := h4 (i + 1) (by omega)
      unfold woF
      rw [if_neg (by omega), if_neg (by omega), if_neg (by omega), if_neg (by omega), show i * 4 + 4 = (i + 1) * 4 by omega, show i * 4 + 1 + 4 = (i + 1) * 4 + 1 by omega, show i * 4 + 2 + 4 = (i + 1) * 4 + 2 by omega, show i * 4 + 3 + 4 = (i + 1) * 4 + 3 by omega]
      exact this)
  unfold puzB
  rw [e, e2]
  simp
  omega
theorem clue_parts : ∃ i0, Try.prog.info? 38 = some i0 ∧ i0.zero = some (.agg #[.int .i64 0, .int .i64 0, .int .i64 0, .int .i64 0]) ∧ i0.size = 4 ∧ i0.bytes = 32 := by
  obtain ⟨i0, h1, h2, h3, h4⟩ := info_parts clue_info
  exact ⟨i0, h1, h2, h3, h4⟩
theorem wpOp_callC {P : Program} {ops : Array Oper} {i : Nat} {o : Oper} {a : Act} {K : Act → World → Prop} {Q : Exit → Act → World → Prop} {w : World} (f : FuncId) (args : Array Value) (hi : ops[i]? = some o) (hw : Region.wanted o (yielded ops a.tmps) = true)
    (h1 : (execOp a.eval o).run P w = .ok (.enter f args) w) (h2 : o.upon P a K Q (.ok (.enter f args) w)) : wpOp P ops Q i K a w :=
  wpOp_left hi hw (by unfold Oper.wp; rw [h1]; exact h2)
set_option maxHeartbeats 4000000 in
theorem pzWithout_any (bk off c n k : Nat) (f : Nat → Int) (w : World) (hk : k < n) (hn : n ≤ 6) (hnc : n ≤ c) (hc : c ≤ 9223372036854775807) (hR : RdI w w.heap.size (some ⟨bk, off, none⟩) (n * 4) f) :
    Calls Try.prog 56 #[.slice (some ⟨bk, off, none⟩) n c, .int .i64 (k : Int)] w fun e w' => (∃ v, e = .returned v ∧ RowC w' w.heap.size v (n - 1) (woF f k)) ∧ Below w.heap.size w w' := by
  obtain ⟨i0, hi0, hz0, hz1, hz2⟩ := clue_parts
  have HI := Lib.hid (And.intro hi0 (And.intro hz0 (And.intro hz1 hz2)))
  obtain ⟨b', o', e, hb, hcell⟩ := hR (by omega)
  injection e with e
  injection e with e1 e2
  subst e1 e2
  have HW := Lib.hid (wo_parts f hk)
  have hkk : IntKind.i64.wrap ((k : Int) + 1) = (k : Int) + 1 := IntWalk.i64_in _ (by omega)
  have q1 : (k : Int) ≤ (c : Int) := by omega
  have q2 : (k : Int) + 1 ≤ (n : Int) := by omega
  have q3 : 0 ≤ (k : Int) + 1 := by omega
  have q4 : k ≤ c := by omega
  have q5 : k + 1 ≤ n := by omega
  have q6 : (n : Int) ≤ (c : Int) := by omega
  obtain ⟨x2, hx2⟩ : ∃ x : Nat, x = if c = k + 1 then off else off + (k + 1) * 4 := ⟨_, rfl⟩
  have HC2 : Hid (∀ W, Below w.heap.size w W → ∀ j u, (fl4 (fun i => f ((k + 1) * 4 + i)) (n - (k + 1)))[j]? = some u → W.cell? ((⟨bk, x2, none⟩ : Addr).add j) = some u) := Lib.hid (fun W hW => fl4_cells (fun i hi => by
    have : ¬ c = k + 1 := by omega
    rw [hx2, if_neg this]
    have := (hW.cell (p := ⟨bk, off + ((k + 1) * 4 + i), none⟩) hb).trans (hcell ((k + 1) * 4 + i) (by omega))
    rw [← Nat.add_assoc] at this
    exact this))
  have HC1 : Hid (∀ W, Below w.heap.size w W → ∀ j u, (fl4 f k)[j]? = some u → W.cell? ((⟨bk, off, none⟩ : Addr).add j) = some u) := Lib.hid (fun W hW => fl4_cells (fun i hi => (hW.cell (p := ⟨bk, off + i, none⟩) hb).trans (hcell i (by omega))))
  clear hcell hi0 hz0 hz1 hz2
  by_cases hck : c = k + 1
  · rw [if_pos hck] at hx2
    subst hx2
    obtain rfl : n = k + 1 := by omega
    obtain rfl : c = k + 1 := hck
    have hkk1 : k + 1 - (k + 1) = 0 := by omega
    go_enter Try.func56, Try.ntmps56
    go_upto_region 1 with fail
    refine wp_region_any (by kernel_rfl) ?_
    change wpAny _ _ _ _ _ _ _ (World.drew _)
    have BB : Below w.heap.size w w.drew := (Below.refl _ _).drew
    generalize w.drew = W0 at BB ⊢
    refine wpAny_take (i := 1) (v := .slice (some ⟨bk, x2, none⟩) (k + 1) (k + 1)) rfl (by kernel_rfl) (by kernel_rfl) (by kernel_rfl) (fun _ _ _ h => h) (Or.inl ⟨by rfl, fun W => by first | rfl | (go_simp; try (intro h; omega))⟩) ?_
    (try simp only [List.getElem_toArray, List.getElem_cons_zero, List.getElem_cons_succ, Act.put, List.setIfInBounds_toArray, List.set_cons_zero, List.set_cons_succ])
    refine wpAny_take (i := 2) (v := .int .i64 (k : Int)) rfl (by kernel_rfl) (by kernel_rfl) (by kernel_rfl) (fun _ _ _ h => h) (Or.inl ⟨by rfl, fun W => by first | rfl | (go_simp; try (intro h; omega))⟩) ?_
    (try simp only [List.getElem_toArray, List.getElem_cons_zero, List.getElem_cons_succ, Act.put, List.setIfInBounds_toArray, List.set_cons_zero, List.set_cons_succ])
    refine wpAny_take (i := 3) (v := .slice (some ⟨bk, x2, none⟩) k (k + 1)) rfl (by kernel_rfl) (by kernel_rfl) (by kernel_rfl) (fun _ _ _ h => h) (Or.inl ⟨by rfl, fun W => by first | rfl | (go_simp; try (intro h; omega))⟩) ?_
    (try simp only [List.getElem_toArray, List.getElem_cons_zero, List.getElem_cons_succ, Act.put, List.setIfInBounds_toArray, List.set_cons_zero, List.set_cons_succ])
    refine wpAny_take (i := 5) (v := .slice (some ⟨bk, x2, none⟩) (k + 1) (k + 1)) rfl (by kernel_rfl) (by kernel_rfl) (by kernel_rfl) (fun _ _ _ h => h) (Or.inl ⟨by rfl, fun W => by first | rfl | (go_simp; try (intro h; omega))⟩) ?_
    (try simp only [List.getElem_toArray, List.getElem_cons_zero, List.getElem_cons_succ, Act.put, List.setIfInBounds_toArray, List.set_cons_zero, List.set_cons_succ])
    refine wpAny_take (i := 6) (v := .int .i64 (k : Int)) rfl (by kernel_rfl) (by kernel_rfl) (by kernel_rfl) (fun _ _ _ h => h) (Or.inl ⟨by rfl, fun W => by first | rfl | (go_simp; try (intro h; omega))⟩) ?_
    (try simp only [List.getElem_toArray, List.getElem_cons_zero, List.getElem_cons_succ, Act.put, List.setIfInBounds_toArray, List.set_cons_zero, List.set_cons_succ])
    refine wpAny_take (i := 7) (v := .int .i64 ((k : Int) + 1)) rfl (by kernel_rfl) (by kernel_rfl) (by kernel_rfl) (fun _ _ _ h => h) (Or.inl ⟨by rfl, fun W => by first | rfl | (go_simp; try (intro h; omega))⟩) ?_
    (try simp only [List.getElem_toArray, List.getElem_cons_zero, List.getElem_cons_succ, Act.put, List.setIfInBounds_toArray, List.set_cons_zero, List.set_cons_succ])
    refine wpAny_take (i := 8) (v := .slice (some ⟨bk, x2, none⟩) 0 0) rfl (by kernel_rfl) (by kernel_rfl) (by kernel_rfl) (fun _ _ _ h => h) (Or.inl ⟨by rfl, fun W => by first | rfl | (go_simp; try (intro h; omega))⟩) ?_
    (try simp only [List.getElem_toArray, List.getElem_cons_zero, List.getElem_cons_succ, Act.put, List.setIfInBounds_toArray, List.set_cons_zero, List.set_cons_succ])
    refine wpAny_all (rs := [0]) (by kernel_rfl) (by simp) (fun i hi => ?_)
    obtain rfl : i = 0 := by simpa using hi
    refine wpOp_val (v := .slice (some ⟨W0.heap.size, 0, none⟩) 0 0) (w' := W0.alloc (.cells #[] 38)) rfl (by rfl) (by go_simp) ?_
    have own1 : (W0.alloc (.cells #[] 38)).ownsRow w.heap.size 38 4 (.slice (some ⟨W0.heap.size, 0, none⟩) 0 0) 0 [] := World.ownsRow_lit W0 #[] 0 BB.size (by decide) rfl
    have B1 := Below.alloc BB BB.size (.cells #[] 38)
    (try simp only [List.getElem_toArray, List.getElem_cons_zero, List.getElem_cons_succ, Act.put, List.setIfInBounds_toArray, List.set_cons_zero, List.set_cons_succ])
    generalize hW1 : W0.alloc (.cells #[] 38) = W1 at own1 B1 ⊢
    obtain ⟨v1, hv1⟩ : ∃ v, v = Value.slice (some ⟨W0.heap.size, 0, none⟩) 0 0 := ⟨_, rfl⟩
    rw [← hv1] at own1 ⊢
    clear hW1 hv1
    refine wpAny_all (rs := [4]) (by kernel_rfl) (by simp) (fun i hi => ?_)
    obtain rfl : i = 4 := by simpa using hi
    refine wpOp_left rfl (by rfl) (wp_append_own _ (.tmp 5) (.tmp 8) 26 rfl w.heap.size 38 i0 (.agg #[.int .i64 0, .int .i64 0, .int .i64 0, .int .i64 0]) 4 32 Try.underlying26 HI.out.1 HI.out.2.1 HI.out.2.2.1 HI.out.2.2.2 rfl (by decide) v1 0 [] rfl own1 ⟨bk, x2, none⟩ k (k + 1) (fl4 f k) rfl (fl4_len _ _) (HC1.out _ B1) (fl4_one _ _) (by unfold maxLen; omega) (by omega) B1.size ?_)
    intro v2 W2 own2 hgr2 _
    have B2 := B1.grown hgr2 B1.size (fun g hg => (World.ownsRow.lt own1 g hg).1)
    (try simp only [List.getElem_toArray, List.getElem_cons_zero, List.getElem_cons_succ, Act.put, List.setIfInBounds_toArray, List.set_cons_zero, List.set_cons_succ])
    refine wpAny_all (rs := [9]) (by kernel_rfl) (by simp) (fun i hi => ?_)
    obtain rfl : i = 9 := by simpa using hi
    refine wpOp_left rfl (by rfl) (wp_append_own _ (.tmp 9) (.tmp 13) 26 rfl w.heap.size 38 i0 (.agg #[.int .i64 0, .int .i64 0, .int .i64 0, .int .i64 0]) 4 32 Try.underlying26 HI.out.1 HI.out.2.1 HI.out.2.2.1 HI.out.2.2.2 rfl (by decide) v2 (0 + k) ([] ++ fl4 f k) rfl own2 ⟨bk, x2, none⟩ 0 0 (fl4 (fun i => f ((k + 1) * 4 + i)) (k + 1 - (k + 1))) rfl (by rw [fl4_len, hkk1]) (HC2.out _ B2) (fl4_one _ _) (by unfold maxLen; omega) (by omega) B2.size ?_)
    intro v3 W3 own3 hgr3 _
    have B3 := B2.grown hgr3 B2.size (fun g hg => (World.ownsRow.lt own2 g hg).1)
    (try simp only [List.getElem_toArray, List.getElem_cons_zero, List.getElem_cons_succ, Act.put, List.setIfInBounds_toArray, List.set_cons_zero, List.set_cons_succ])
    refine wpAny_all (rs := [10]) (by kernel_rfl) (by simp) (fun i hi => ?_)
    obtain rfl : i = 10 := by simpa using hi
    refine wpOp_val (v := v3) (w' := W3) rfl (by rfl) (by first | rfl | go_simp) ?_
    (try simp only [List.getElem_toArray, List.getElem_cons_zero, List.getElem_cons_succ, Act.put, List.setIfInBounds_toArray, List.set_cons_zero, List.set_cons_succ])
    refine wpAny_done (by kernel_rfl) ?_ _
    go_wp2_with fail
    go_ret
    exact ⟨⟨_, rfl, by have h := HW.out; rw [Nat.add_sub_cancel] at h; have o := own3; rw [show 0 + k + 0 = k from (by omega)] at o; unfold RowC; rw [h]; exact o⟩, B3⟩
  · rw [if_neg hck] at hx2
    subst hx2
    have hck2 : k + 1 ≤ c := by omega
    go_enter Try.func56, Try.ntmps56
    go_upto_region 1 with fail
    refine wp_region_any (by kernel_rfl) ?_
    change wpAny _ _ _ _ _ _ _ (World.drew _)
    have BB : Below w.heap.size w w.drew := (Below.refl _ _).drew
    generalize w.drew = W0 at BB ⊢
    refine wpAny_take (i := 1) (v := .slice (some ⟨bk, off, none⟩) n c) rfl (by kernel_rfl) (by kernel_rfl) (by kernel_rfl) (fun _ _ _ h => h) (Or.inl ⟨by rfl, fun W => by first | rfl | (go_simp; try (intro h; omega))⟩) ?_
    (try simp only [List.getElem_toArray, List.getElem_cons_zero, List.getElem_cons_succ, Act.put, List.setIfInBounds_toArray, List.set_cons_zero, List.set_cons_succ])
    refine wpAny_take (i := 2) (v := .int .i64 (k : Int)) rfl (by kernel_rfl) (by kernel_rfl) (by kernel_rfl) (fun _ _ _ h => h) (Or.inl ⟨by rfl, fun W => by first | rfl | (go_simp; try (intro h; omega))⟩) ?_
    (try simp only [List.getElem_toArray, List.getElem_cons_zero, List.getElem_cons_succ, Act.put, List.setIfInBounds_toArray, List.set_cons_zero, List.set_cons_succ])
    refine wpAny_take (i := 3) (v := .slice (some ⟨bk, off, none⟩) k c) rfl (by kernel_rfl) (by kernel_rfl) (by kernel_rfl) (fun _ _ _ h => h) (Or.inl ⟨by rfl, fun W => by first | rfl | (go_simp; try (intro h; omega))⟩) ?_
    (try simp only [List.getElem_toArray, List.getElem_cons_zero, List.getElem_cons_succ, Act.put, List.setIfInBounds_toArray, List.set_cons_zero, List.set_cons_succ])
    refine wpAny_take (i := 5) (v := .slice (some ⟨bk, off, none⟩) n c) rfl (by kernel_rfl) (by kernel_rfl) (by kernel_rfl) (fun _ _ _ h => h) (Or.inl ⟨by rfl, fun W => by first | rfl | (go_simp; try (intro h; omega))⟩) ?_
    (try simp only [List.getElem_toArray, List.getElem_cons_zero, List.getElem_cons_succ, Act.put, List.setIfInBounds_toArray, List.set_cons_zero, List.set_cons_succ])
    refine wpAny_take (i := 6) (v := .int .i64 (k : Int)) rfl (by kernel_rfl) (by kernel_rfl) (by kernel_rfl) (fun _ _ _ h => h) (Or.inl ⟨by rfl, fun W => by first | rfl | (go_simp; try (intro h; omega))⟩) ?_
    (try simp only [List.getElem_toArray, List.getElem_cons_zero, List.getElem_cons_succ, Act.put, List.setIfInBounds_toArray, List.set_cons_zero, List.set_cons_succ])
    refine wpAny_take (i := 7) (v := .int .i64 ((k : Int) + 1)) rfl (by kernel_rfl) (by kernel_rfl) (by kernel_rfl) (fun _ _ _ h => h) (Or.inl ⟨by rfl, fun W => by first | rfl | (go_simp; try (intro h; omega))⟩) ?_
    (try simp only [List.getElem_toArray, List.getElem_cons_zero, List.getElem_cons_succ, Act.put, List.setIfInBounds_toArray, List.set_cons_zero, List.set_cons_succ])
    refine wpAny_take (i := 8) (v := .slice (some ⟨bk, off + (k + 1) * 4, none⟩) (n - (k + 1)) (c - (k + 1))) rfl (by kernel_rfl) (by kernel_rfl) (by kernel_rfl) (fun _ _ _ h => h) (Or.inl ⟨by rfl, fun W => by first | rfl | (go_simp; try (intro h; omega))⟩) ?_
    (try simp only [List.getElem_toArray, List.getElem_cons_zero, List.getElem_cons_succ, Act.put, List.setIfInBounds_toArray, List.set_cons_zero, List.set_cons_succ])
    refine wpAny_all (rs := [0]) (by kernel_rfl) (by simp) (fun i hi => ?_)
    obtain rfl : i = 0 := by simpa using hi
    refine wpOp_val (v := .slice (some ⟨W0.heap.size, 0, none⟩) 0 0) (w' := W0.alloc (.cells #[] 38)) rfl (by rfl) (by go_simp) ?_
    have own1 : (W0.alloc (.cells #[] 38)).ownsRow w.heap.size 38 4 (.slice (some ⟨W0.heap.size, 0, none⟩) 0 0) 0 [] := World.ownsRow_lit W0 #[] 0 BB.size (by decide) rfl
    have B1 := Below.alloc BB BB.size (.cells #[] 38)
    (try simp only [List.getElem_toArray, List.getElem_cons_zero, List.getElem_cons_succ, Act.put, List.setIfInBounds_toArray, List.set_cons_zero, List.set_cons_succ])
    generalize hW1 : W0.alloc (.cells #[] 38) = W1 at own1 B1 ⊢
    obtain ⟨v1, hv1⟩ : ∃ v, v = Value.slice (some ⟨W0.heap.size, 0, none⟩) 0 0 := ⟨_, rfl⟩
    rw [← hv1] at own1 ⊢
    clear hW1 hv1
    refine wpAny_all (rs := [4]) (by kernel_rfl) (by simp) (fun i hi => ?_)
    obtain rfl : i = 4 := by simpa using hi
    refine wpOp_left rfl (by rfl) (wp_append_own _ (.tmp 5) (.tmp 8) 26 rfl w.heap.size 38 i0 (.agg #[.int .i64 0, .int .i64 0, .int .i64 0, .int .i64 0]) 4 32 Try.underlying26 HI.out.1 HI.out.2.1 HI.out.2.2.1 HI.out.2.2.2 rfl (by decide) v1 0 [] rfl own1 ⟨bk, off, none⟩ k c (fl4 f k) rfl (fl4_len _ _) (HC1.out _ B1) (fl4_one _ _) (by unfold maxLen; omega) (by omega) B1.size ?_)
    intro v2 W2 own2 hgr2 _
    have B2 := B1.grown hgr2 B1.size (fun g hg => (World.ownsRow.lt own1 g hg).1)
    (try simp only [List.getElem_toArray, List.getElem_cons_zero, List.getElem_cons_succ, Act.put, List.setIfInBounds_toArray, List.set_cons_zero, List.set_cons_succ])
    refine wpAny_all (rs := [9]) (by kernel_rfl) (by simp) (fun i hi => ?_)
    obtain rfl : i = 9 := by simpa using hi
    refine wpOp_left rfl (by rfl) (wp_append_own _ (.tmp 9) (.tmp 13) 26 rfl w.heap.size 38 i0 (.agg #[.int .i64 0, .int .i64 0, .int .i64 0, .int .i64 0]) 4 32 Try.underlying26 HI.out.1 HI.out.2.1 HI.out.2.2.1 HI.out.2.2.2 rfl (by decide) v2 (0 + k) ([] ++ fl4 f k) rfl own2 ⟨bk, off + (k + 1) * 4, none⟩ (n - (k + 1)) (c - (k + 1)) (fl4 (fun i => f ((k + 1) * 4 + i)) (n - (k + 1))) rfl (by rw [fl4_len]) (HC2.out _ B2) (fl4_one _ _) (by unfold maxLen; omega) (by omega) B2.size ?_)
    intro v3 W3 own3 hgr3 _
    have B3 := B2.grown hgr3 B2.size (fun g hg => (World.ownsRow.lt own2 g hg).1)
    (try simp only [List.getElem_toArray, List.getElem_cons_zero, List.getElem_cons_succ, Act.put, List.setIfInBounds_toArray, List.set_cons_zero, List.set_cons_succ])
    refine wpAny_all (rs := [10]) (by kernel_rfl) (by simp) (fun i hi => ?_)
    obtain rfl : i = 10 := by simpa using hi
    refine wpOp_val (v := v3) (w' := W3) rfl (by rfl) (by first | rfl | go_simp) ?_
    (try simp only [List.getElem_toArray, List.getElem_cons_zero, List.getElem_cons_succ, Act.put, List.setIfInBounds_toArray, List.set_cons_zero, List.set_cons_succ])
    refine wpAny_done (by kernel_rfl) ?_ _
    go_wp2_with fail
    go_ret
    exact ⟨⟨_, rfl, by unfold RowC; rw [HW.out, show n - 1 = 0 + k + (n - (k + 1)) by omega]; exact own3⟩, B3⟩
end Go.Proofs.Ytacabmbajadbgaa
/- contracts: slices.Grow and slices.Concat of clues; a puzzle without a clue, the program -/
namespace Go.Proofs.Ytacabmbajadbgaa
open Go.ChangeShapes Go.WideShapes Go.ChangeAt Go.RowKit Go.Joins
set_option linter.unusedVariables false
set_option linter.unusedSimpArgs false
set_option maxRecDepth 4000
set_option maxHeartbeats 2000000 in
theorem part_some (s : Int) (bk off c n a b : Nat) (w : World) (hab : a ≤ b) (hbn : b ≤ n) (hnc : n ≤ c) (hc : c ≤ 9223372036854775807) :
    Calls Try.prog 65 #[.agg #[.int .i64 s, .slice (some ⟨bk, off, none⟩) n c], .int .i64 (a : Int), .int .i64 (b : Int)] w fun e w' => (∃ o', e = .returned (.agg #[.int .i64 s, .slice (some ⟨bk, o', none⟩) (b - a) (b - a)]) ∧ (a < b → o' = off + a * 4)) ∧ Below w.heap.size w w' := by
  obtain ⟨W, hW, B0, z, c0, c1, r0, r1, fr⟩ := pbx_two w s (some ⟨bk, off, none⟩) n c 28 28
  have h1 : (a : Int) ≤ (b : Int) := by omega
  have h2 : (b : Int) ≤ (c : Int) := by omega
  have z1 : w.heap.size < W.heap.size := by omega
  have hbc : b ≤ c := by omega
  have f0 := fr 0
  have f1 := fr 1
  clear fr
  by_cases hlt : a < b
  · have hne : ¬ b - a = 0 := by omega
    have hne2 : ¬ b = a := by omega
    go_enter Try.func65, Try.ntmps65
    go_wp2_with fail
    rw [← hW]
    clear hW
    go_region
    all_goals
      go_wp2_with fail
      refine bodyPost_ret (v := .agg #[.int .i64 s, .slice (some ⟨bk, off + a * 4, none⟩) (b - a) (b - a)]) (by simp [results, Try.results65, go_sem, c0, c1, r0, r1, z, z1]) rfl ⟨⟨_, rfl, fun _ => rfl⟩, ?_⟩
      repeat (first | with_reducible assumption | with_reducible exact Below.refl _ _ | with_reducible apply Below.drew | ((with_reducible refine Below.setCell ?_ ?_ _); rotate_left; (first | exact Nat.le_refl _ | omega | (simp <;> omega))) | ((with_reducible refine Below.alloc ?_ ?_ _); rotate_left; (first | omega | (simp <;> omega))))
  · obtain rfl : a = b := by omega
    go_enter Try.func65, Try.ntmps65
    go_wp2_with fail
    rw [← hW]
    clear hW
    go_region
    all_goals
      go_wp2_with fail
      refine bodyPost_ret (v := .agg #[.int .i64 s, .slice (some ⟨bk, off, none⟩) (a - a) (a - a)]) (by simp [results, Try.results65, go_sem, c0, c1, r0, r1, z, z1]) rfl ⟨⟨_, rfl, fun h => absurd h (by omega)⟩, ?_⟩
      repeat (first | with_reducible assumption | with_reducible exact Below.refl _ _ | with_reducible apply Below.drew | ((with_reducible refine Below.setCell ?_ ?_ _); rotate_left; (first | exact Nat.le_refl _ | omega | (simp <;> omega))) | ((with_reducible refine Below.alloc ?_ ?_ _); rotate_left; (first | omega | (simp <;> omega))))
theorem zeroCells_size (z : Array Value) (n : Nat) : (Builtin.zeroCells z n).size = n * z.size := by unfold Builtin.zeroCells; simp
set_option maxHeartbeats 2000000 in
theorem growC_any (n : Nat) (w : World) (hn : n ≤ 6) :
    Calls Try.prog 115 #[.slice none 0 0, .int .i64 (n : Int)] w fun e w' => (∃ v, e = .returned v ∧ w'.ownsRow w.heap.size 38 4 v 0 []) ∧ Below w.heap.size w w' := by
  rcases Nat.eq_zero_or_pos n with h0 | h0
  · subst h0
    go_enter Try.func115, Try.ntmps115
    go_wp2_with fail
    go_ret
    exact ⟨⟨_, rfl, World.ownsRow_nil _ _ _ _⟩, Below.refl _ _⟩
  · obtain ⟨i0, hi0, hz0, hz1, hz2⟩ := clue_parts
    have hold : (Builtin.firstCells i0.size 0 (.slice none 0 0)).run Try.prog w.drew = .ok ([] : List Value).toArray w.drew := run_firstCells_none w.drew i0.size 0 0 0
    have hzs : (Value.agg #[.int .i64 0, .int .i64 0, .int .i64 0, .int .i64 0]).cells.size = 4 := rfl
    have hrz : ∀ ty, (Builtin.append_ #[26, 3] ty #[.slice none 0 0, .int .i64 (n : Int)]).run Try.prog w = .ok (.slice (some ⟨w.heap.size, 0, none⟩) n (grownCap w n 0 38)) (w.drew.alloc (.cells (([] : List Value).toArray ++ Builtin.zeroCells (Value.agg #[.int .i64 0, .int .i64 0, .int .i64 0, .int .i64 0]).cells n ++ Builtin.zeroCells (Value.agg #[.int .i64 0, .int .i64 0, .int .i64 0, .int .i64 0]).cells (grownCap w n 0 38 - n)) 38)) := fun ty => by
      have h := Lib.run_append_grow_zeros (P := Try.prog) w 26 3 ty 38 i0 _ .i64 .i64 Try.underlying26 Try.underlying3 hi0 hz0 none 0 0 [] hold n h0 (by rw [hz1]; decide) (by omega) (by omega) (by rw [hz2]; omega) (growslice_fits (by omega) (by rw [hz2]; omega))
      rw [Nat.zero_add] at h
      exact h
    have hGn : n ≤ grownCap w n 0 38 := grownCap_ge w _ _ _
    have hGm : grownCap w n 0 38 ≤ maxLen := grownCap_le_maxLen w n 0 38 (by unfold maxLen; omega)
    obtain ⟨G, hG⟩ : ∃ G, G = grownCap w n 0 38 := ⟨_, rfl⟩
    rw [← hG] at hrz hGn hGm
    clear hG
    obtain ⟨cur, hcur⟩ : ∃ cur, cur = (([] : List Value).toArray ++ Builtin.zeroCells (Value.agg #[.int .i64 0, .int .i64 0, .int .i64 0, .int .i64 0]).cells n ++ Builtin.zeroCells (Value.agg #[.int .i64 0, .int .i64 0, .int .i64 0, .int .i64 0]).cells (G - n)) := ⟨_, rfl⟩
    have hcs : cur.size = G * 4 := by
      rw [hcur, Array.size_append, Array.size_append, zeroCells_size, zeroCells_size, hzs]
      simp
      omega
    rw [← hcur] at hrz
    clear hcur hold hzs
    have hG63 : G ≤ 9223372036854775807 := by unfold maxLen at hGm; omega
    have h1 : ¬ ((n : Int) < 0) := by omega
    have h4 : (0 : Int) < (n : Int) := by omega
    have e1 : IntKind.i64.wrap ((n : Int) - 0) = (n : Int) := by rw [IntWalk.i64_in _ (by omega)]; omega
    go_enter Try.func115, Try.ntmps115
    go_wp2_with (at_builtin; refine Lib.wpList_append_run _ rfl _ _ _ _ rfl _ _ rfl rfl _ _ (hrz _) ?_)
    all_goals
      go_ret
      exact ⟨⟨_, rfl, rfl, .inr ⟨w.heap.size, G, cur, rfl, Nat.le_refl _, heap_alloc_new w.drew _, Nat.zero_le _, hGm, hcs, rfl⟩⟩, Below.alloc (Below.refl _ _).drew (Nat.le_refl _) _⟩
end Go.Proofs.Ytacabmbajadbgaa
/- contracts: slices.Concat of clues; a puzzle without a clue, the program -/
namespace Go.Proofs.Ytacabmbajadbgaa
open Go.ChangeShapes Go.WideShapes Go.ChangeAt Go.RowKit Go.Joins
set_option linter.unusedVariables false
set_option linter.unusedSimpArgs false
set_option maxRecDepth 4000
theorem own_base {w : World} {base base' : Nat} {e : TypeId} {size : Nat} {v : Value} {n : Nat} {xs : List Value} (h : w.ownsRow base e size v n xs) (hb : base' ≤ base) : w.ownsRow base' e size v n xs := by
  obtain ⟨h1, h2⟩ := h
  rcases h2 with h2 | ⟨g, cap, cur, hv, hg, r⟩
  · exact ⟨h1, .inl h2⟩
  · exact ⟨h1, .inr ⟨g, cap, cur, hv, by omega, r⟩⟩
set_option maxHeartbeats 4000000 in
theorem concatC_any (gs bk o1 o2 n1 n2 c1 c2 : Nat) (f1 f2 : Nat → Int) (w : World) (hn : n1 + n2 ≤ 6) (zs : gs < w.heap.size) (zb : bk < w.heap.size)
    (s0 : w.cell? ⟨gs, 0, none⟩ = some (.slice (some ⟨bk, o1, none⟩) n1 c1)) (s1 : w.cell? ⟨gs, 1, none⟩ = some (.slice (some ⟨bk, o2, none⟩) n2 c2))
    (H1 : ∀ i, i < n1 * 4 → w.cell? ⟨bk, o1 + i, none⟩ = some (.int .i64 (f1 i))) (H2 : ∀ i, i < n2 * 4 → w.cell? ⟨bk, o2 + i, none⟩ = some (.int .i64 (f2 i))) :
    Calls Try.prog 94 #[.slice (some ⟨gs, 0, none⟩) 2 2] w fun e w' => (∃ v, e = .returned v ∧ w'.ownsRow w.heap.size 38 4 v (n1 + n2) (fl4 f1 n1 ++ fl4 f2 n2)) ∧ Below w.heap.size w w' := by
  obtain ⟨i0, hi0, hz0, hz1, hz2⟩ := clue_parts
  have HI := Lib.hid (And.intro hi0 (And.intro hz0 (And.intro hz1 hz2)))
  have HC1 : Hid (∀ W, Below w.heap.size w W → ∀ j u, (fl4 f1 n1)[j]? = some u → W.cell? ((⟨bk, o1, none⟩ : Addr).add j) = some u) := Lib.hid (fun W hW => fl4_cells (fun i hi => (hW.cell (p := ⟨bk, o1 + i, none⟩) zb).trans (H1 i hi)))
  have HC2 : Hid (∀ W, Below w.heap.size w W → ∀ j u, (fl4 f2 n2)[j]? = some u → W.cell? ((⟨bk, o2, none⟩ : Addr).add j) = some u) := Lib.hid (fun W hW => fl4_cells (fun i hi => (hW.cell (p := ⟨bk, o2 + i, none⟩) zb).trans (H2 i hi)))
  have KG := Lib.hid (fun W => growC_any (n1 + n2) W hn)
  have e1 : IntKind.i64.wrap ((n1 : Int) + (n2 : Int)) = ((n1 + n2 : Nat) : Int) := by rw [IntWalk.i64_in _ (by omega)]; omega
  have e2 : ¬ ((n1 + n2 : Nat) : Int) < 0 := by omega
  have e3 : ¬ (n1 : Int) < 0 := by omega
  have b1 : n1 ≤ 6 := by omega
  have b2 : n2 ≤ 6 := by omega
  have HS0 := Lib.hid s0
  have HS1 := Lib.hid s1
  clear H1 H2 hi0 hz0 hz1 hz2 s0 s1
  obtain ⟨m, hm⟩ : ∃ m, m = n1 + n2 := ⟨_, rfl⟩
  rw [← hm] at e1 e2 KG hn ⊢
  have HM := Lib.hid hm
  clear hm
  go_enter Try.func94, Try.ntmps94
  go_wp2_with fail
  go_loopg [3, 11] 2 (fun gg a i wr => (gg = 2 ∧ i = .int .i64 0 ∧ a = .int .i64 0 ∨ gg = 1 ∧ i = .int .i64 1 ∧ a = .int .i64 (n1 : Int) ∨ gg = 0 ∧ i = .int .i64 2 ∧ a = .int .i64 (m : Int)) ∧ Below w.heap.size w wr)
  case atStart => exact ⟨Or.inl ⟨rfl, rfl, rfl⟩, Below.refl _ _⟩
  case round =>
    obtain ⟨hc, hB⟩ := hrel
    rename World => wo
    have x0 := ((bcell hB).1 _ _ zs).trans HS0.out
    have x1 := ((bcell hB).1 _ _ zs).trans HS1.out
    have xz := Nat.lt_of_lt_of_le zs hB.size
    rcases hc with ⟨rfl, rfl, rfl⟩ | ⟨rfl, rfl, rfl⟩ | ⟨rfl, rfl, rfl⟩
    · go_wp2_with fail
      go_roundg 1
      case measure => omega
      case rel => exact ⟨Or.inr (Or.inl ⟨rfl, rfl, rfl⟩), by repeat (first | with_reducible assumption | with_reducible exact Below.refl _ _ | with_reducible apply Below.drew | ((with_reducible refine Below.setCell ?_ ?_ _); rotate_left; (first | exact Nat.le_refl _ | omega | (simp <;> omega))) | ((with_reducible refine Below.alloc ?_ ?_ _); rotate_left; (first | omega | (simp <;> omega))))⟩
    · go_wp2_with fail
      go_roundg 0
      case measure => omega
      case rel => exact ⟨Or.inr (Or.inr ⟨rfl, rfl, rfl⟩), by repeat (first | with_reducible assumption | with_reducible exact Below.refl _ _ | with_reducible apply Below.drew | ((with_reducible refine Below.setCell ?_ ?_ _); rotate_left; (first | exact Nat.le_refl _ | omega | (simp <;> omega))) | ((with_reducible refine Below.alloc ?_ ?_ _); rotate_left; (first | omega | (simp <;> omega))))⟩
    · go_wp2_with fail
      refine (KG.out _).mono ?_; rintro e w2 ⟨⟨v0, rfl, own0⟩, hb2⟩
      have B2 := hB.trans (hb2.mono hB.size)
      have R0 : Hid (w2.ownsRow w.heap.size 38 4 v0 0 []) := Lib.hid (own_base own0 hB.size)
      clear own0 hb2 hB x0 x1 xz
      go_wp2_with fail
      go_loopg [6, 27] 2 (fun gg a i wr => ∃ (v : Value), v = a ∧ (gg = 2 ∧ i = .int .i64 0 ∧ Hid (wr.ownsRow w.heap.size 38 4 v 0 []) ∨ gg = 1 ∧ i = .int .i64 1 ∧ Hid (wr.ownsRow w.heap.size 38 4 v n1 (fl4 f1 n1)) ∨ gg = 0 ∧ i = .int .i64 2 ∧ Hid (wr.ownsRow w.heap.size 38 4 v (n1 + n2) (fl4 f1 n1 ++ fl4 f2 n2))) ∧ Below w.heap.size w wr)
      case atStart => exact ⟨_, rfl, Or.inl ⟨rfl, rfl, R0⟩, B2⟩
      case round =>
        clear R0 B2
        obtain ⟨v, rfl, hc, hB⟩ := hrel
        rename World => wi
        have x0 := ((bcell hB).1 _ _ zs).trans HS0.out
        have x1 := ((bcell hB).1 _ _ zs).trans HS1.out
        have xz := Nat.lt_of_lt_of_le zs hB.size
        have hzi := hB.size
        rcases hc with ⟨rfl, rfl, R⟩ | ⟨rfl, rfl, R⟩ | ⟨rfl, rfl, R⟩
        · go_wp2_with (at_builtin; go_loud (refine wpList_append_own _ rfl (.tmp 31) (.tmp 32) 26 rfl w.heap.size 38 i0 (.agg #[.int .i64 0, .int .i64 0, .int .i64 0, .int .i64 0]) 4 32 Try.underlying26 HI.out.1 HI.out.2.1 HI.out.2.2.1 HI.out.2.2.2 rfl (by decide) _ (0) ([]) rfl R.out ⟨bk, o1, none⟩ n1 c1 (fl4 f1 n1) rfl (fl4_len _ _) (HC1.out _ hB) (fl4_one _ _) (by unfold maxLen; omega) (by omega) hzi ?_))
          intro v1 w3 own3 hgr3 _
          have BW := hB.grown hgr3 hB.size (fun g hg => (World.ownsRow.lt R.out g hg).1)
          have R3 := Lib.hid own3
          clear own3 hgr3 R hB
          go_wp2_with fail
          go_roundg 1
          case measure => omega
          case rel => exact ⟨_, rfl, Or.inr (Or.inl ⟨rfl, rfl, R3⟩), BW⟩
        · go_wp2_with (at_builtin; go_loud (refine wpList_append_own _ rfl (.tmp 31) (.tmp 32) 26 rfl w.heap.size 38 i0 (.agg #[.int .i64 0, .int .i64 0, .int .i64 0, .int .i64 0]) 4 32 Try.underlying26 HI.out.1 HI.out.2.1 HI.out.2.2.1 HI.out.2.2.2 rfl (by decide) _ n1 (fl4 f1 n1) rfl R.out ⟨bk, o2, none⟩ n2 c2 (fl4 f2 n2) rfl (fl4_len _ _) (HC2.out _ hB) (fl4_one _ _) (by unfold maxLen; omega) (by omega) hzi ?_))
          intro v1 w3 own3 hgr3 _
          have BW := hB.grown hgr3 hB.size (fun g hg => (World.ownsRow.lt R.out g hg).1)
          have R3 := Lib.hid own3
          clear own3 hgr3 R hB
          go_wp2_with fail
          go_roundg 0
          case measure => omega
          case rel => exact ⟨_, rfl, Or.inr (Or.inr ⟨rfl, rfl, R3⟩), BW⟩
        · go_wp2_with fail
          go_ret
          exact ⟨⟨_, rfl, by have o := R.out; rw [← HM.out] at o; exact o⟩, hB⟩
theorem heap_set_ne (w : World) (a : Addr) (k : Nat) (v : Value) (h : k ≠ a.block) : (w.setCell a v).heap[k]? = w.heap[k]? := by
  unfold World.setCell
  simp [Array.getElem?_modify, Ne.symm h]
theorem rowC_base {w : World} {base base' : Nat} {v : Value} {n : Nat} {f : Nat → Int} (h : RowC w base v n f) (hb : base' ≤ base) : RowC w base' v n f := own_base h hb
theorem rowC_set {w : World} {base : Nat} {v : Value} {n : Nat} {f : Nat → Int} {a : Addr} (h : RowC w base v n f) (ha : a.block < base) (u : Value) : RowC (w.setCell a u) base v n f := by
  obtain ⟨h1, h2⟩ := h
  rcases h2 with h2 | ⟨g, cap, cur, hv, hg, hh, r⟩
  · exact ⟨h1, .inl h2⟩
  · exact ⟨h1, .inr ⟨g, cap, cur, hv, hg, (heap_set_ne w a g u (by omega)).trans hh, r⟩⟩
theorem without_boxes (w : World) (s : Int) (A : Option Addr) (n c : Nat) (T T' : TypeId) : ∃ W, W = (w.alloc (.cells #[.int .i64 s, .slice A n c] T)).alloc (.cells #[.int .i64 0, .slice none 0 0] T') ∧ Below w.heap.size w W ∧ w.heap.size + 1 < W.heap.size ∧ W.cell? ⟨w.heap.size, 0, none⟩ = some (.int .i64 s) ∧ W.cell? ⟨w.heap.size, 1, none⟩ = some (.slice A n c) ∧ W.cell? ⟨w.heap.size + 1, 0, none⟩ = some (.int .i64 0) ∧ W.cell? ⟨w.heap.size + 1, 1, none⟩ = some (.slice none 0 0) ∧ (∀ o, W.frozen? ⟨w.heap.size + 1, o, none⟩ = false) := pbx_two w s A n c T T'
/-- what a box of a puzzle holds, and that it is one's own -/
structure Pbw (W : World) (b : Nat) (u v : Value) : Prop where
  z : b < W.heap.size
  c0 : W.cell? ⟨b, 0, none⟩ = some u
  c1 : W.cell? ⟨b, 1, none⟩ = some v
  fz : ∀ o, W.frozen? ⟨b, o, none⟩ = false
theorem pbw_below {W W' : World} {b : Nat} {u v : Value} (h : Pbw W b u v) (hb : Below W.heap.size W W') : Pbw W' b u v :=
  ⟨Nat.lt_of_lt_of_le h.z hb.size, ((bcell hb).1 _ _ h.z).trans h.c0, ((bcell hb).1 _ _ h.z).trans h.c1, fun o => ((bcell hb).2 _ _ h.z).trans (h.fz o)⟩
theorem pbw_new (w : World) (u v : Value) (T : TypeId) : Pbw (w.alloc (.cells #[u, v] T)) w.heap.size u v :=
  ⟨by simp, by go_simp, by go_simp, fun o => by rw [frozen?_alloc_cells]; simp [World.frozen?]⟩
/-- a puzzle without its clue number k -/
def WoR (w : World) (s : Int) (n k : Nat) (f : Nat → Int) (e : Ending) (w' : World) : Prop := (∃ v, e = .returned (.agg #[.int .i64 s, v]) ∧ RowC w' w.heap.size v (n - 1) (woF f k)) ∧ Below w.heap.size w w'
set_option maxHeartbeats 8000000 in
theorem without_any (s : Int) (bk off c n k : Nat) (f : Nat → Int) (w : World) (hk : k < n) (hn : n ≤ 6) (hnc : n ≤ c) (hc : c ≤ 9223372036854775807) (hR : RdI w w.heap.size (some ⟨bk, off, none⟩) (n * 4) f) :
    Calls Try.prog 59 #[.agg #[.int .i64 s, .slice (some ⟨bk, off, none⟩) n c], .int .i64 (k : Int)] w (WoR w s n k f) := by
  obtain ⟨W, hW, B0, z, c0, c1, r0, r1, fr⟩ := pbx_two w s (some ⟨bk, off, none⟩) n c 28 28
  have P0 := Lib.hid (show Pbx W w.heap.size s (some ⟨bk, off, none⟩) n c from ⟨by omega, c0, c1⟩)
  have Q0 := Lib.hid (show Pbw W (w.heap.size + 1) (.int .i64 0) (.slice none 0 0) from ⟨z, r0, r1, fr⟩)
  obtain ⟨b', o', e, hb, hcell⟩ := hR (by omega)
  injection e with e
  injection e with e1 e2
  subst e1 e2
  have HC := Lib.hid hcell
  have HW := Lib.hid (wo_parts f hk)
  have KA := Lib.hid (fun W => part_some s bk off c n 0 k W (by omega) (by omega) hnc hc)
  have KB := Lib.hid (fun W => part_some s bk off c n (k + 1) n W (by omega) (by omega) hnc hc)
  have hkk : IntKind.i64.wrap ((k : Int) + 1) = ((k + 1 : Nat) : Int) := by rw [IntWalk.i64_in _ (by omega)]; omega
  have B0' := Lib.hid B0
  rw [Nat.sub_zero] at KA
  rw [show ((k + 1 : Nat) : Int) = (k : Int) + 1 by omega] at hkk KB
  clear z c0 c1 r0 r1 fr hcell B0 hR
  go_enter Try.func59, Try.ntmps59
  go_wp2_with fail
  rw [← hW]
  clear hW
  have p0 := P0.out.c0
  have p1 := P0.out.c1
  have pz := P0.out.z
  go_wp2_with fail
  refine (KA.out _).mono ?_; rintro e w2 ⟨⟨x1, rfl, hx1⟩, hb2⟩
  have HX1 := Lib.hid hx1
  have B2 := B0'.out.trans (hb2.mono B0'.out.size)
  have P2 := Lib.hid (pbx_below P0.out hb2)
  have Q2 := Lib.hid (pbw_below Q0.out hb2)
  clear hb2 P0 Q0 B0' p0 p1 pz hx1 KA
  have p0 := P2.out.c0
  have p1 := P2.out.c1
  have pz := P2.out.z
  go_wp2_with fail
  obtain ⟨W3, hW3⟩ : ∃ W3, W3 = w2.alloc (.cells #[.int .i64 s, .slice (some ⟨bk, x1, none⟩) k k] 28) := ⟨_, rfl⟩
  have b3 : Below w2.heap.size w2 W3 := by rw [hW3]; exact Below.alloc (Below.refl _ _) (Nat.le_refl _) _
  have N3 := Lib.hid (show Pbw W3 w2.heap.size (.int .i64 s) (.slice (some ⟨bk, x1, none⟩) k k) by rw [hW3]; exact pbw_new _ _ _ _)
  rw [← hW3]
  clear hW3
  have B3 := B2.trans (b3.mono B2.size)
  have P3 := Lib.hid (pbx_below P2.out b3)
  have Q3 := Lib.hid (pbw_below Q2.out b3)
  obtain ⟨g5, hg5⟩ : ∃ g, g = w2.heap.size := ⟨_, rfl⟩
  rw [← hg5] at N3 ⊢
  have hg5l : w.heap.size + 1 < g5 := by have := Q2.out.z; omega
  clear b3 P2 Q2 p0 p1 pz hg5
  refine (KB.out _).mono ?_; rintro e w4 ⟨⟨x2, rfl, hx2⟩, hb4⟩
  have HX2 := Lib.hid hx2
  have B4 := B3.trans (hb4.mono B3.size)
  have P4 := Lib.hid (pbx_below P3.out hb4)
  have Q4 := Lib.hid (pbw_below Q3.out hb4)
  have N4 := Lib.hid (pbw_below N3.out hb4)
  clear hb4 P3 Q3 N3 hx2 KB B3 B2
  go_wp2_with fail
  obtain ⟨W5, hW5⟩ : ∃ W5, W5 = w4.alloc (.cells #[.int .i64 s, .slice (some ⟨bk, x2, none⟩) (n - (k + 1)) (n - (k + 1))] 28) := ⟨_, rfl⟩
  have b5 : Below w4.heap.size w4 W5 := by rw [hW5]; exact Below.alloc (Below.refl _ _) (Nat.le_refl _) _
  have M5 := Lib.hid (show Pbw W5 w4.heap.size (.int .i64 s) (.slice (some ⟨bk, x2, none⟩) (n - (k + 1)) (n - (k + 1))) by rw [hW5]; exact pbw_new _ _ _ _)
  rw [← hW5]
  clear hW5
  have B5 := B4.trans (b5.mono B4.size)
  have P5 := Lib.hid (pbx_below P4.out b5)
  have Q5 := Lib.hid (pbw_below Q4.out b5)
  have N5 := Lib.hid (pbw_below N4.out b5)
  obtain ⟨g6, hg6⟩ : ∃ g, g = w4.heap.size := ⟨_, rfl⟩
  rw [← hg6] at M5 ⊢
  have hg6l : g5 < g6 := by have := N4.out.z; omega
  clear b5 P4 Q4 N4 hg6 B4
  have KC : Hid (∀ W1 gs, Below W5.heap.size W5 W1 → gs < W1.heap.size → W1.cell? ⟨gs, 0, none⟩ = some (.slice (some ⟨bk, x1, none⟩) k k) → W1.cell? ⟨gs, 1, none⟩ = some (.slice (some ⟨bk, x2, none⟩) (n - (k + 1)) (n - (k + 1))) → Calls Try.prog 94 #[.slice (some ⟨gs, 0, none⟩) 2 2] W1 fun e w' => (∃ v, e = .returned v ∧ RowC w' W5.heap.size v (n - 1) (woF f k)) ∧ Below W5.heap.size W5 w') := Lib.hid (fun W1 gs bB zg y0 y1 => by
    have bC := B5.trans (bB.mono B5.size)
    have hz := bC.size
    refine (concatC_any gs bk x1 x2 k (n - (k + 1)) k (n - (k + 1)) f (fun i => f ((k + 1) * 4 + i)) W1 (by omega) zg (by omega) y0 y1 (fun i hi => ?_) (fun i hi => ?_)).mono ?_
    · have e := HX1.out (by omega)
      rw [show x1 + i = off + i by omega]
      exact (bC.cell (p := ⟨bk, off + i, none⟩) hb).trans (HC.out i (by omega))
    · have e := HX2.out (by omega)
      rw [show x2 + i = off + ((k + 1) * 4 + i) by omega]
      exact (bC.cell (p := ⟨bk, off + ((k + 1) * 4 + i), none⟩) hb).trans (HC.out _ (by omega))
    · rintro e w' ⟨⟨v, rfl, own⟩, hbw⟩
      refine ⟨⟨v, rfl, ?_⟩, bB.trans (hbw.mono bB.size)⟩
      unfold RowC
      rw [HW.out, show n - 1 = k + (n - (k + 1)) by omega]
      exact own_base own bB.size)
  have a0 := P5.out.c0
  have a1 := P5.out.c1
  have az := P5.out.z
  have d1 := N5.out.c1
  have dz := N5.out.z
  have f1 := M5.out.c1
  have fz := M5.out.z
  clear HC HW HX1 HX2
  go_upto_region 3 with fail
  go_region_with (first
    | (go_at_call 94; go_loud (refine (KC.out _ _ (by first | exact (Below.alloc (Below.refl _ _) (Nat.le_refl _) _).drew | exact Below.alloc (Below.refl _ _).drew (Nat.le_refl _) _ | exact Below.alloc (Below.refl _ _) (Nat.le_refl _) _) (by first | simp | (simp [World.drew])) (by go_simp) (by go_simp)).mono ?_); rintro e wA ⟨⟨v, rfl, own⟩, kA⟩;
       obtain ⟨Av, cv, rfl, hnv, hcv, rwv⟩ := rowC_rwi own;
       clear hnv hcv rwv;
       have QA := pbw_below Q5.out kA;
       have PA := pbx_below P5.out kA;
       have r0 := QA.c0;
       have r1 := QA.c1;
       have rz := QA.z;
       have rf0 := QA.fz 0;
       have rf1 := QA.fz 1;
       have hw5 : w.heap.size + 1 < W5.heap.size := Q5.out.z;
       have pa0 := PA.c0;
       have paz := PA.z;
       have BA := B5.trans (kA.mono B5.size);
       clear QA PA))
  all_goals
    go_wp2_with fail
    refine bodyPost_ret (v := .agg #[.int .i64 s, .slice Av (n - 1) cv]) (by simp [results, Try.results59, go_sem, rz, r0, r1]) rfl ⟨⟨_, rfl, ?_⟩, ?_⟩
    · exact rowC_base (rowC_set (rowC_set own (by show w.heap.size + 1 < _; omega) _) (by show w.heap.size + 1 < _; omega) _) B5.size
    · repeat (first | with_reducible assumption | with_reducible exact Below.refl _ _ | with_reducible apply Below.drew | ((with_reducible refine Below.setCell ?_ ?_ _); rotate_left; (first | exact Nat.le_refl _ | omega | (simp <;> omega))) | ((with_reducible refine Below.alloc ?_ ?_ _); rotate_left; (first | omega | (simp <;> omega))))
end Go.Proofs.Ytacabmbajadbgaa
/- contracts: DropClue, on both sides -/
namespace Go.Proofs.Ytacabmbajadbgaa
open Go.ChangeShapes Go.WideShapes Go.ChangeAt Go.RowKit Go.Joins
set_option linter.unusedVariables false
set_option linter.unusedSimpArgs false
set_option maxRecDepth 4000
/-- a call that gives a puzzle and a bool, in new memory -/
def RetZ (w : World) (S : Int) (p : Nat) (F : Nat → Int) (b : Bool) (e : Ending) (w' : World) : Prop :=
  ∃ A c, e = .returned (.tuple #[.agg #[.int .i64 S, .slice A p c], .bool b]) ∧ Below w.heap.size w w' ∧ RwI w' w.heap.size w'.heap.size A (p * 4) F
theorem retZ_nil {w w' : World} {F : Nat → Int} (hb : Below w.heap.size w w') : RetZ w 0 0 F false (.returned (.tuple #[.agg #[.int .i64 0, .slice none 0 0], .bool false])) w' :=
  ⟨none, 0, rfl, hb, fun h => absurd h (by omega)⟩
theorem retZ_row {w w1 w' : World} {s : Int} {n c : Nat} {A : Option Addr} {f : Nat → Int} (h : RowC w' w1.heap.size (.slice A n c) n f) (hb1 : Below w.heap.size w w1) (hb : Below w.heap.size w w') : RetZ w s n f true (.returned (.tuple #[.agg #[.int .i64 s, .slice A n c], .bool true])) w' := by
  obtain ⟨A2, c2, e, _, _, h2⟩ := rowC_rwi h
  injection e with e1 e2 e3
  subst e1 e3
  exact ⟨A, c, rfl, hb, rwi_more h2 hb1.size (Nat.le_refl _)⟩
def drB (s : Int) (n : Nat) (f : Nat → Int) (k : Int) : Bool := puzB s n f && (decide (0 ≤ k) && decide (k < (n : Int)))
def drS (s : Int) (n : Nat) (f : Nat → Int) (k : Int) : Int := if drB s n f k = true then s else 0
def drN (s : Int) (n : Nat) (f : Nat → Int) (k : Int) : Nat := if drB s n f k = true then n - 1 else 0
theorem dr_t {s : Int} {n : Nat} {f : Nat → Int} {k : Int} (h : drB s n f k = true) : drS s n f k = s ∧ drN s n f k = n - 1 := by unfold drS drN; rw [if_pos h, if_pos h]; exact ⟨rfl, rfl⟩
theorem dr_f {s : Int} {n : Nat} {f : Nat → Int} {k : Int} (h : drB s n f k = false) : drS s n f k = 0 ∧ drN s n f k = 0 := by unfold drS drN; rw [h]; exact ⟨rfl, rfl⟩
set_option maxHeartbeats 4000000 in
theorem implDropClue_any (s : Int) (bk off c n : Nat) (f : Nat → Int) (k : Int) (w : World) (hm : n ≤ 1048576) (hnc : n ≤ c) (hc : c ≤ 9223372036854775807) (hR : RdI w w.heap.size (some ⟨bk, off, none⟩) (n * 4) f) :
    Calls Try.prog 18 #[.agg #[.int .i64 s, .slice (some ⟨bk, off, none⟩) n c], .int .i64 k] w (RetZ w (drS s n f k) (drN s n f k) (woF f k.toNat) (drB s n f k)) := by
  have K := Lib.hid (fun W (hb : Below w.heap.size w W) => implIsPuzzle_any s (some ⟨bk, off, none⟩) c n f W (rdi_below hR hb (Nat.le_refl _)))
  obtain ⟨W0, hW, B0, z, c0, c1, r0, r1, fr⟩ := pbx_two w s (some ⟨bk, off, none⟩) n c 28 28
  have P0 := Lib.hid (show Pbx W0 w.heap.size s (some ⟨bk, off, none⟩) n c from ⟨by omega, c0, c1⟩)
  have Q0 := Lib.hid (show Pbw W0 (w.heap.size + 1) (.int .i64 0) (.slice none 0 0) from ⟨z, r0, r1, fr⟩)
  have HB := Lib.hid B0
  clear z c0 c1 r0 r1 fr B0
  cases hp : puzB s n f
  · have hd : drB s n f k = false := by unfold drB; rw [hp]; rfl
    rw [(dr_f hd).1, (dr_f hd).2, hd]
    rw [hp] at K
    clear hp hR hd
    go_enter Try.func18, Try.ntmps18
    go_wp2_with fail
    rw [← hW]
    clear hW
    have p0 := P0.out.c0
    have p1 := P0.out.c1
    have pz := P0.out.z
    go_wp2_with fail
    refine (K.out _ HB.out).mono ?_; rintro e w1 ⟨rfl, hb1⟩
    have B1 := HB.out.trans (hb1.mono HB.out.size)
    have P1 := Lib.hid (pbx_below P0.out hb1)
    have Q1 := Lib.hid (pbw_below Q0.out hb1)
    clear hb1 P0 Q0 HB K p0 p1 pz
    have r0 := Q1.out.c0
    have r1 := Q1.out.c1
    have rz := Q1.out.z
    have rf0 := Q1.out.fz 0
    have rf1 := Q1.out.fz 1
    have p0 := P1.out.c0
    have p1 := P1.out.c1
    have pz := P1.out.z
    have zz := B1.size
    go_wp2_with fail
    refine bodyPost_ret (v := .tuple #[.agg #[.int .i64 0, .slice none 0 0], .bool false]) (by simp [results, Try.results18, go_sem, rz, r0, r1]) rfl (retZ_nil ?_)
    repeat (first | with_reducible assumption | with_reducible exact Below.refl _ _ | with_reducible apply Below.drew | ((with_reducible refine Below.setCell ?_ ?_ _); rotate_left; (first | exact Nat.le_refl _ | omega | (simp <;> omega))) | ((with_reducible refine Below.alloc ?_ ?_ _); rotate_left; (first | omega | (simp <;> omega))))
  rcases Int.lt_or_le k 0 with h0 | h0
  · have hd : drB s n f k = false := by unfold drB; rw [decide_eq_false (show ¬ (0 : Int) ≤ k by omega)]; simp
    rw [(dr_f hd).1, (dr_f hd).2, hd]
    rw [hp] at K
    clear hp hR hd
    go_enter Try.func18, Try.ntmps18
    go_wp2_with fail
    rw [← hW]
    clear hW
    have p0 := P0.out.c0
    have p1 := P0.out.c1
    have pz := P0.out.z
    go_wp2_with fail
    refine (K.out _ HB.out).mono ?_; rintro e w1 ⟨rfl, hb1⟩
    have B1 := HB.out.trans (hb1.mono HB.out.size)
    have P1 := Lib.hid (pbx_below P0.out hb1)
    have Q1 := Lib.hid (pbw_below Q0.out hb1)
    clear hb1 P0 Q0 HB K p0 p1 pz
    have r0 := Q1.out.c0
    have r1 := Q1.out.c1
    have rz := Q1.out.z
    have rf0 := Q1.out.fz 0
    have rf1 := Q1.out.fz 1
    have p0 := P1.out.c0
    have p1 := P1.out.c1
    have pz := P1.out.z
    have zz := B1.size
    go_wp2_with fail
    refine bodyPost_ret (v := .tuple #[.agg #[.int .i64 0, .slice none 0 0], .bool false]) (by simp [results, Try.results18, go_sem, rz, r0, r1]) rfl (retZ_nil ?_)
    repeat (first | with_reducible assumption | with_reducible exact Below.refl _ _ | with_reducible apply Below.drew | ((with_reducible refine Below.setCell ?_ ?_ _); rotate_left; (first | exact Nat.le_refl _ | omega | (simp <;> omega))) | ((with_reducible refine Below.alloc ?_ ?_ _); rotate_left; (first | omega | (simp <;> omega))))
  rcases Int.lt_or_le k (n : Int) with h1 | h1
  rotate_left
  · have hd : drB s n f k = false := by unfold drB; rw [decide_eq_false (show ¬ k < (n : Int) by omega)]; simp
    have h0' : ¬ k < 0 := by omega
    rw [(dr_f hd).1, (dr_f hd).2, hd]
    rw [hp] at K
    clear hp hR hd
    go_enter Try.func18, Try.ntmps18
    go_wp2_with fail
    rw [← hW]
    clear hW
    have p0 := P0.out.c0
    have p1 := P0.out.c1
    have pz := P0.out.z
    go_wp2_with fail
    refine (K.out _ HB.out).mono ?_; rintro e w1 ⟨rfl, hb1⟩
    have B1 := HB.out.trans (hb1.mono HB.out.size)
    have P1 := Lib.hid (pbx_below P0.out hb1)
    have Q1 := Lib.hid (pbw_below Q0.out hb1)
    clear hb1 P0 Q0 HB K p0 p1 pz
    have r0 := Q1.out.c0
    have r1 := Q1.out.c1
    have rz := Q1.out.z
    have rf0 := Q1.out.fz 0
    have rf1 := Q1.out.fz 1
    have p0 := P1.out.c0
    have p1 := P1.out.c1
    have pz := P1.out.z
    have zz := B1.size
    go_wp2_with fail
    refine bodyPost_ret (v := .tuple #[.agg #[.int .i64 0, .slice none 0 0], .bool false]) (by simp [results, Try.results18, go_sem, rz, r0, r1]) rfl (retZ_nil ?_)
    repeat (first | with_reducible assumption | with_reducible exact Below.refl _ _ | with_reducible apply Below.drew | ((with_reducible refine Below.setCell ?_ ?_ _); rotate_left; (first | exact Nat.le_refl _ | omega | (simp <;> omega))) | ((with_reducible refine Below.alloc ?_ ?_ _); rotate_left; (first | omega | (simp <;> omega))))
  · have hd : drB s n f k = true := by unfold drB; rw [hp, decide_eq_true h0, decide_eq_true h1]; rfl
    rw [(dr_t hd).1, (dr_t hd).2, hd]
    rw [hp] at K
    obtain ⟨kn, rfl⟩ : ∃ kn : Nat, k = (kn : Int) := ⟨k.toNat, by omega⟩
    have h12 := puzB_t hp
    rw [show ((kn : Int)).toNat = kn by omega]
    have h0' : ¬ (kn : Int) < 0 := by omega
    have h1' : ¬ (n : Int) ≤ (kn : Int) := by omega
    have KW := Lib.hid (fun W (hb : Below w.heap.size w W) => without_any s bk off c n kn f W (by omega) h12.2.2.1 hnc hc (rdi_below hR hb (Nat.le_refl _)))
    clear hp hR hd h12 h0
    go_enter Try.func18, Try.ntmps18
    go_wp2_with fail
    rw [← hW]
    clear hW
    have p0 := P0.out.c0
    have p1 := P0.out.c1
    have pz := P0.out.z
    go_wp2_with fail
    refine (K.out _ HB.out).mono ?_; rintro e w1 ⟨rfl, hb1⟩
    have B1 := HB.out.trans (hb1.mono HB.out.size)
    have P1 := Lib.hid (pbx_below P0.out hb1)
    have Q1 := Lib.hid (pbw_below Q0.out hb1)
    clear hb1 P0 Q0 HB K p0 p1 pz
    have p0 := P1.out.c0
    have p1 := P1.out.c1
    have pz := P1.out.z
    go_wp2_with fail
    refine (KW.out _ B1).mono ?_; rintro e wA ⟨⟨v, rfl, own⟩, kA⟩
    obtain ⟨Av, cv, rfl, hnv, hcv, rwv⟩ := rowC_rwi own
    have QA := pbw_below Q1.out kA
    have r0 := QA.c0
    have r1 := QA.c1
    have rz := QA.z
    have rf0 := QA.fz 0
    have rf1 := QA.fz 1
    have BA := B1.trans (kA.mono B1.size)
    have hz1 := Q1.out.z
    have zz := BA.size
    clear hnv hcv rwv QA KW p0 p1 pz
    go_wp2_with fail
    refine bodyPost_ret (v := .tuple #[.agg #[.int .i64 s, .slice Av (n - 1) cv], .bool true]) (by simp [results, Try.results18, go_sem, rz, r0, r1]) rfl ?_
    exact retZ_row (rowC_set (rowC_set own (by show w.heap.size + 1 < _; exact hz1) _) (by show w.heap.size + 1 < _; exact hz1) _) B1 (by repeat (first | with_reducible assumption | with_reducible exact Below.refl _ _ | with_reducible apply Below.drew | ((with_reducible refine Below.setCell ?_ ?_ _); rotate_left; (first | exact Nat.le_refl _ | omega | (simp <;> omega))) | ((with_reducible refine Below.alloc ?_ ?_ _); rotate_left; (first | omega | (simp <;> omega)))))
set_option maxHeartbeats 4000000 in
theorem specDropClue_any (s : Int) (bk off c n : Nat) (f : Nat → Int) (k : Int) (w : World) (hm : n ≤ 1048576) (hnc : n ≤ c) (hc : c ≤ 9223372036854775807) (hR : RdI w w.heap.size (some ⟨bk, off, none⟩) (n * 4) f) :
    Calls Try.prog 16 #[.agg #[.int .i64 s, .slice (some ⟨bk, off, none⟩) n c], .int .i64 k] w (RetZ w (drS s n f k) (drN s n f k) (woF f k.toNat) (drB s n f k)) := by
  have K := Lib.hid (fun W (hb : Below w.heap.size w W) => pzGood_any s (some ⟨bk, off, none⟩) c n f W hm (rdi_below hR hb (Nat.le_refl _)))
  obtain ⟨W0, hW, B0, z, c0, c1, r0, r1, fr⟩ := pbx_two w s (some ⟨bk, off, none⟩) n c 28 28
  have P0 := Lib.hid (show Pbx W0 w.heap.size s (some ⟨bk, off, none⟩) n c from ⟨by omega, c0, c1⟩)
  have Q0 := Lib.hid (show Pbw W0 (w.heap.size + 1) (.int .i64 0) (.slice none 0 0) from ⟨z, r0, r1, fr⟩)
  have HB := Lib.hid B0
  clear z c0 c1 r0 r1 fr B0
  have KL := Lib.hid (fun W => l1In_any k 0 ((n : Int) - 1) W)
  cases hp : puzB s n f
  · have hd : drB s n f k = false := by unfold drB; rw [hp]; rfl
    rw [(dr_f hd).1, (dr_f hd).2, hd]
    rw [hp] at K
    clear hp hR hd KL
    go_enter Try.func16, Try.ntmps16
    go_wp2_with fail
    rw [← hW]
    clear hW
    have p0 := P0.out.c0
    have p1 := P0.out.c1
    have pz := P0.out.z
    go_wp2_with fail
    refine (K.out _ HB.out).mono ?_; rintro e w1 ⟨rfl, hb1⟩
    have B1 := HB.out.trans (hb1.mono HB.out.size)
    have P1 := Lib.hid (pbx_below P0.out hb1)
    have Q1 := Lib.hid (pbw_below Q0.out hb1)
    clear hb1 P0 Q0 HB K p0 p1 pz
    have r0 := Q1.out.c0
    have r1 := Q1.out.c1
    have rz := Q1.out.z
    have rf0 := Q1.out.fz 0
    have rf1 := Q1.out.fz 1
    have p0 := P1.out.c0
    have p1 := P1.out.c1
    have pz := P1.out.z
    have zz := B1.size
    go_wp2_with fail
    refine bodyPost_ret (v := .tuple #[.agg #[.int .i64 0, .slice none 0 0], .bool false]) (by simp [results, Try.results16, go_sem, rz, r0, r1]) rfl (retZ_nil ?_)
    repeat (first | with_reducible assumption | with_reducible exact Below.refl _ _ | with_reducible apply Below.drew | ((with_reducible refine Below.setCell ?_ ?_ _); rotate_left; (first | exact Nat.le_refl _ | omega | (simp <;> omega))) | ((with_reducible refine Below.alloc ?_ ?_ _); rotate_left; (first | omega | (simp <;> omega))))
  rcases Int.lt_or_le k 0 with h0 | h0
  · have hd : drB s n f k = false := by unfold drB; rw [decide_eq_false (show ¬ (0 : Int) ≤ k by omega)]; simp
    rw [(dr_f hd).1, (dr_f hd).2, hd]
    rw [hp] at K
    rw [show (decide ((0 : Int) ≤ k) && decide (k ≤ (n : Int) - 1)) = false by simp; omega] at KL
    have hnn : IntKind.i64.wrap ((n : Int) - 1) = (n : Int) - 1 := IntWalk.i64_in _ (by omega)
    clear hp hR hd
    go_enter Try.func16, Try.ntmps16
    go_wp2_with fail
    rw [← hW]
    clear hW
    have p0 := P0.out.c0
    have p1 := P0.out.c1
    have pz := P0.out.z
    go_wp2_with fail
    refine (K.out _ HB.out).mono ?_; rintro e w1 ⟨rfl, hb1⟩
    have B1 := HB.out.trans (hb1.mono HB.out.size)
    have P1 := Lib.hid (pbx_below P0.out hb1)
    have Q1 := Lib.hid (pbw_below Q0.out hb1)
    clear hb1 P0 Q0 HB K p0 p1 pz
    have r0 := Q1.out.c0
    have r1 := Q1.out.c1
    have rz := Q1.out.z
    have rf0 := Q1.out.fz 0
    have rf1 := Q1.out.fz 1
    have p0 := P1.out.c0
    have p1 := P1.out.c1
    have pz := P1.out.z
    have zz := B1.size
    go_wp2_with fail
    try rw [hnn]
    refine (KL.out _).mono ?_; rintro e _ ⟨rfl, rfl⟩
    go_wp2_with fail
    refine bodyPost_ret (v := .tuple #[.agg #[.int .i64 0, .slice none 0 0], .bool false]) (by simp [results, Try.results16, go_sem, rz, r0, r1]) rfl (retZ_nil ?_)
    repeat (first | with_reducible assumption | with_reducible exact Below.refl _ _ | with_reducible apply Below.drew | ((with_reducible refine Below.setCell ?_ ?_ _); rotate_left; (first | exact Nat.le_refl _ | omega | (simp <;> omega))) | ((with_reducible refine Below.alloc ?_ ?_ _); rotate_left; (first | omega | (simp <;> omega))))
  rcases Int.lt_or_le k (n : Int) with h1 | h1
  rotate_left
  · have hd : drB s n f k = false := by unfold drB; rw [decide_eq_false (show ¬ k < (n : Int) by omega)]; simp
    have h0' : ¬ k < 0 := by omega
    rw [(dr_f hd).1, (dr_f hd).2, hd]
    rw [hp] at K
    rw [show (decide ((0 : Int) ≤ k) && decide (k ≤ (n : Int) - 1)) = false by simp; omega] at KL
    have hnn : IntKind.i64.wrap ((n : Int) - 1) = (n : Int) - 1 := IntWalk.i64_in _ (by omega)
    clear hp hR hd
    go_enter Try.func16, Try.ntmps16
    go_wp2_with fail
    rw [← hW]
    clear hW
    have p0 := P0.out.c0
    have p1 := P0.out.c1
    have pz := P0.out.z
    go_wp2_with fail
    refine (K.out _ HB.out).mono ?_; rintro e w1 ⟨rfl, hb1⟩
    have B1 := HB.out.trans (hb1.mono HB.out.size)
    have P1 := Lib.hid (pbx_below P0.out hb1)
    have Q1 := Lib.hid (pbw_below Q0.out hb1)
    clear hb1 P0 Q0 HB K p0 p1 pz
    have r0 := Q1.out.c0
    have r1 := Q1.out.c1
    have rz := Q1.out.z
    have rf0 := Q1.out.fz 0
    have rf1 := Q1.out.fz 1
    have p0 := P1.out.c0
    have p1 := P1.out.c1
    have pz := P1.out.z
    have zz := B1.size
    go_wp2_with fail
    try rw [hnn]
    refine (KL.out _).mono ?_; rintro e _ ⟨rfl, rfl⟩
    go_wp2_with fail
    refine bodyPost_ret (v := .tuple #[.agg #[.int .i64 0, .slice none 0 0], .bool false]) (by simp [results, Try.results16, go_sem, rz, r0, r1]) rfl (retZ_nil ?_)
    repeat (first | with_reducible assumption | with_reducible exact Below.refl _ _ | with_reducible apply Below.drew | ((with_reducible refine Below.setCell ?_ ?_ _); rotate_left; (first | exact Nat.le_refl _ | omega | (simp <;> omega))) | ((with_reducible refine Below.alloc ?_ ?_ _); rotate_left; (first | omega | (simp <;> omega))))
  · have hd : drB s n f k = true := by unfold drB; rw [hp, decide_eq_true h0, decide_eq_true h1]; rfl
    rw [(dr_t hd).1, (dr_t hd).2, hd]
    rw [hp] at K
    obtain ⟨kn, rfl⟩ : ∃ kn : Nat, k = (kn : Int) := ⟨k.toNat, by omega⟩
    have h12 := puzB_t hp
    rw [show ((kn : Int)).toNat = kn by omega]
    rw [show (decide ((0 : Int) ≤ (kn : Int)) && decide ((kn : Int) ≤ (n : Int) - 1)) = true by simp; omega] at KL
    have hnn : IntKind.i64.wrap ((n : Int) - 1) = (n : Int) - 1 := IntWalk.i64_in _ (by omega)
    have KW := Lib.hid (fun W (hb : Below w.heap.size w W) => pzWithout_any bk off c n kn f W (by omega) h12.2.2.1 hnc hc (rdi_below hR hb (Nat.le_refl _)))
    clear hp hR hd h12 h0
    go_enter Try.func16, Try.ntmps16
    go_wp2_with fail
    rw [← hW]
    clear hW
    have p0 := P0.out.c0
    have p1 := P0.out.c1
    have pz := P0.out.z
    go_wp2_with fail
    refine (K.out _ HB.out).mono ?_; rintro e w1 ⟨rfl, hb1⟩
    have B1 := HB.out.trans (hb1.mono HB.out.size)
    have P1 := Lib.hid (pbx_below P0.out hb1)
    have Q1 := Lib.hid (pbw_below Q0.out hb1)
    clear hb1 P0 Q0 HB K p0 p1 pz
    have p0 := P1.out.c0
    have p1 := P1.out.c1
    have pz := P1.out.z
    go_wp2_with fail
    try rw [hnn]
    refine (KL.out _).mono ?_; rintro e _ ⟨rfl, rfl⟩
    have r0 := Q1.out.c0
    have r1 := Q1.out.c1
    have rz := Q1.out.z
    have hw1 := B1.size
    go_upto_region 3 with fail
    go_region_with (first
      | (go_at_call 56; go_loud (refine (KW.out _ (by first | exact B1 | exact B1.drew)).mono ?_); rintro e wA ⟨⟨v, rfl, own⟩, kA'⟩;
         have kA : Below w1.heap.size w1 wA := (by first | exact kA' | exact (Below.refl _ _).drew.trans kA');
         obtain ⟨Av, cv, rfl, hnv, hcv, rwv⟩ := rowC_rwi own;
         clear hnv hcv rwv;
         have QA := pbw_below Q1.out kA;
         have PA := pbx_below P1.out kA;
         have ra0 := QA.c0;
         have ra1 := QA.c1;
         have raz := QA.z;
         have rf0 := QA.fz 0;
         have rf1 := QA.fz 1;
         have pa0 := PA.c0;
         have paz := PA.z;
         have BA := B1.trans (kA.mono B1.size);
         have hown : RowC wA w1.heap.size (.slice Av (n - 1) cv) (n - 1) (woF f kn) := own;
         clear QA PA))
    all_goals
      go_wp2_with fail
      refine bodyPost_ret (v := .tuple #[.agg #[.int .i64 s, .slice Av (n - 1) cv], .bool true]) (by simp [results, Try.results16, go_sem, raz, ra0, ra1]) rfl ?_
      exact retZ_row (rowC_set (rowC_set hown (by show w.heap.size + 1 < _; exact rz) _) (by show w.heap.size + 1 < _; exact rz) _) B1 (by repeat (first | with_reducible assumption | with_reducible exact Below.refl _ _ | with_reducible apply Below.drew | ((with_reducible refine Below.setCell ?_ ?_ _); rotate_left; (first | exact Nat.le_refl _ | omega | (simp <;> omega))) | ((with_reducible refine Below.alloc ?_ ?_ _); rotate_left; (first | omega | (simp <;> omega)))))
end Go.Proofs.Ytacabmbajadbgaa
/- contracts: HarderPuzzle, the model; slices.Clone of clues -/
namespace Go.Proofs.Ytacabmbajadbgaa
open Go.ChangeShapes Go.WideShapes Go.ChangeAt Go.RowKit Go.Joins
set_option linter.unusedVariables false
set_option linter.unusedSimpArgs false
set_option maxRecDepth 4000
set_option maxHeartbeats 2000000 in
theorem cloneC_any (bk off c n : Nat) (f : Nat → Int) (w : World) (hn : n ≤ 6) (hR : RdI w w.heap.size (some ⟨bk, off, none⟩) (n * 4) f) :
    Calls Try.prog 72 #[.slice (some ⟨bk, off, none⟩) n c] w fun e w' => (∃ v, e = .returned v ∧ RowC w' w.heap.size v n f) ∧ Below w.heap.size w w' := by
  obtain ⟨i0, hi0, hz0, hz1, hz2⟩ := clue_parts
  have HI := Lib.hid (And.intro hi0 (And.intro hz0 (And.intro hz1 hz2)))
  have HC1 : Hid (∀ W, Below w.heap.size w W → ∀ j u, (fl4 f n)[j]? = some u → W.cell? ((⟨bk, off, none⟩ : Addr).add j) = some u) := Lib.hid (fun W hW => fl4_cells (fun i hi => by
    obtain ⟨b', o', e, hb, hcell⟩ := hR (by omega)
    injection e with e
    injection e with e1 e2
    subst e1 e2
    exact (hW.cell (p := ⟨bk, off + i, none⟩) hb).trans (hcell i hi)))
  clear hR hi0 hz0 hz1 hz2
  go_enter Try.func72, Try.ntmps72
  have hq : ∀ W, Sem.run Try.prog (binOp BinOp.eql 26 (.slice (some ⟨bk, off, none⟩) n c) (.slice none 0 0)) W = .ok (.bool false) W := fun W => by
    first
      | rfl
      | simp [binOp, go_sem, run_underlying Try.underlying26]
      | skip
  have own1 : (w.alloc (.cells #[] 38)).ownsRow w.heap.size 38 4 (.slice (some ⟨w.heap.size, 0, none⟩) 0 0) 0 [] := World.ownsRow_lit w #[] 0 (Nat.le_refl _) (by decide) rfl
  have B1 := Below.alloc (Below.refl w.heap.size w) (Nat.le_refl _) (.cells #[] 38)
  go_wp2_with (at_builtin; go_loud (refine wpList_append_own _ rfl (.tmp 5) (.tmp 6) 26 rfl w.heap.size 38 i0 (.agg #[.int .i64 0, .int .i64 0, .int .i64 0, .int .i64 0]) 4 32 Try.underlying26 HI.out.1 HI.out.2.1 HI.out.2.2.1 HI.out.2.2.2 rfl (by decide) _ 0 [] rfl own1 ⟨bk, off, none⟩ n c (fl4 f n) rfl (fl4_len _ _) (HC1.out _ B1) (fl4_one _ _) (by unfold maxLen; omega) (by omega) B1.size ?_))
  intro v2 w2 own2 hgr _
  have B2 := B1.grown hgr B1.size (fun g hg => (World.ownsRow.lt own1 g hg).1)
  go_wp2_with fail
  go_ret
  exact ⟨⟨_, rfl, by unfold RowC; rw [show n = 0 + n by omega]; simpa using own2⟩, B2⟩
/-- clues are taken out, from number k on, each if there is one solution still -/
noncomputable def hdGo (ns : Nat) : Nat → Nat → (Nat → Int) → Nat → Nat × (Nat → Int)
  | 0, n, f, _ => (n, f)
  | d + 1, n, f, k => if (solK (woF f k) (n - 1) (ns + 1) ((ns + 1) * (ns + 1))).length = 1 then hdGo ns d (n - 1) (woF f k) k else hdGo ns d n f (k + 1)
theorem hd_t {ns n k : Nat} {f : Nat → Int} (hk : k < n) (h : (solK (woF f k) (n - 1) (ns + 1) ((ns + 1) * (ns + 1))).length = 1) : hdGo ns (n - 1 - k) (n - 1) (woF f k) k = hdGo ns (n - k) n f k := by
  rw [show n - k = (n - 1 - k) + 1 by omega, hdGo, if_pos h]
theorem hd_f {ns n k : Nat} {f : Nat → Int} (hk : k < n) (h : ¬ (solK (woF f k) (n - 1) (ns + 1) ((ns + 1) * (ns + 1))).length = 1) : hdGo ns (n - (k + 1)) n f (k + 1) = hdGo ns (n - k) n f k := by
  rw [show n - k = (n - (k + 1)) + 1 by omega, hdGo, if_neg h]
theorem hd_len (ns : Nat) : ∀ d n f k, (hdGo ns d n f k).1 ≤ n
  | 0, _, _, _ => Nat.le_refl _
  | d + 1, n, f, k => by
    rw [hdGo]
    split
    · have := hd_len ns d (n - 1) (woF f k) k; omega
    · exact hd_len ns d n f (k + 1)
noncomputable def hrB (s : Int) (n : Nat) (f : Nat → Int) : Bool := puzB s n f && decide ((solP s n f).length = 1)
noncomputable def hrS (s : Int) (n : Nat) (f : Nat → Int) : Int := if hrB s n f = true then s else 0
noncomputable def hrN (s : Int) (n : Nat) (f : Nat → Int) : Nat := if hrB s n f = true then (hdGo s.toNat n n f 0).1 else 0
noncomputable def hrF (s : Int) (n : Nat) (f : Nat → Int) : Nat → Int := (hdGo s.toNat n n f 0).2
theorem hr_t {ns n : Nat} {f : Nat → Int} (h : hrB (ns : Int) n f = true) : hrS (ns : Int) n f = (ns : Int) ∧ hrN (ns : Int) n f = (hdGo ns n n f 0).1 ∧ hrF (ns : Int) n f = (hdGo ns n n f 0).2 := by
  unfold hrS hrN hrF
  rw [if_pos h, if_pos h]
  exact ⟨rfl, rfl, rfl⟩
theorem hr_f {s : Int} {n : Nat} {f : Nat → Int} (h : hrB s n f = false) : hrS s n f = 0 ∧ hrN s n f = 0 := by
  unfold hrS hrN
  rw [h]
  exact ⟨rfl, rfl⟩
theorem hrN_len (s : Int) (n : Nat) (f : Nat → Int) (hn : n ≤ 1048576) : hrN s n f ≤ 1048576 := by
  unfold hrN
  split
  · exact Nat.le_trans (hd_len _ _ _ _ _) hn
  · omega
theorem own_val' {w : World} {base : Nat} {e : TypeId} {size : Nat} {v : Value} {n : Nat} {xs : List Value} (h : w.ownsRow base e size v n xs) :
    (v = .slice none 0 0 ∧ n = 0) ∨ ∃ g cap, v = .slice (some ⟨g, 0, none⟩) n cap ∧ base ≤ g := by
  rcases h.2 with h2 | ⟨g, cap, cur, hv, hg, _⟩
  · exact .inl h2
  · exact .inr ⟨g, cap, hv, hg⟩
theorem rowC_at {w : World} {base : Nat} {v : Value} {n : Nat} {f : Nat → Int} (h : RowC w base v n f) (h0 : 0 < n) : ∃ b c, v = .slice (some ⟨b, 0, none⟩) n c ∧ n ≤ c ∧ c ≤ 9223372036854775807 ∧ base ≤ b ∧ RdI w w.heap.size (some ⟨b, 0, none⟩) (n * 4) f := by
  have h3 := h
  rcases own_val' h with ⟨hv, hn⟩ | ⟨g, cap, hv, hg⟩
  · omega
  · obtain ⟨A, c, e, q1, q2, q3⟩ := rowC_rwi h3
    rw [hv] at e
    injection e with e1 e2 e3
    subst e1 e3
    exact ⟨g, cap, hv, q1, q2, hg, rdi_of_rw q3 (Nat.le_refl _)⟩
set_option maxHeartbeats 8000000 in
theorem specHarderPuzzle_any (s : Int) (bk off c n : Nat) (f : Nat → Int) (w : World) (hm : n ≤ 1048576) (hnc : n ≤ c) (hc : c ≤ 9223372036854775807) (hR : RdI w w.heap.size (some ⟨bk, off, none⟩) (n * 4) f) :
    Calls Try.prog 34 #[.agg #[.int .i64 s, .slice (some ⟨bk, off, none⟩) n c]] w (RetZ w (hrS s n f) (hrN s n f) (hrF s n f) (hrB s n f)) := by
  have K := Lib.hid (fun W (hb : Below w.heap.size w W) => pzGood_any s (some ⟨bk, off, none⟩) c n f W hm (rdi_below hR hb (Nat.le_refl _)))
  obtain ⟨W0, hW, B0, z, c0, c1, r0, r1, fr⟩ := pbx_two w s (some ⟨bk, off, none⟩) n c 28 28
  have P0 := Lib.hid (show Pbx W0 w.heap.size s (some ⟨bk, off, none⟩) n c from ⟨by omega, c0, c1⟩)
  have Q0 := Lib.hid (show Pbw W0 (w.heap.size + 1) (.int .i64 0) (.slice none 0 0) from ⟨z, r0, r1, fr⟩)
  have HB := Lib.hid B0
  clear z c0 c1 r0 r1 fr B0
  cases hp : puzB s n f
  · have hd : hrB s n f = false := by unfold hrB; rw [hp]; rfl
    rw [(hr_f hd).1, (hr_f hd).2, hd]
    rw [hp] at K
    clear hp hR hd
    go_enter Try.func34, Try.ntmps34
    go_wp2_with fail
    rw [← hW]
    clear hW
    have p0 := P0.out.c0
    have p1 := P0.out.c1
    have pz := P0.out.z
    go_wp2_with fail
    refine (K.out _ HB.out).mono ?_; rintro e w1 ⟨rfl, hb1⟩
    have B1 := HB.out.trans (hb1.mono HB.out.size)
    have Q1 := pbw_below Q0.out hb1
    have r0 := Q1.c0
    have r1 := Q1.c1
    have rz := Q1.z
    have rf0 := Q1.fz 0
    have rf1 := Q1.fz 1
    have zz := B1.size
    clear hb1 P0 Q0 HB K p0 p1 pz Q1
    go_wp2_with fail
    refine bodyPost_ret (v := .tuple #[.agg #[.int .i64 0, .slice none 0 0], .bool false]) (by simp [results, Try.results34, go_sem, rz, r0, r1]) rfl (retZ_nil ?_)
    repeat (first | with_reducible assumption | with_reducible exact Below.refl _ _ | with_reducible apply Below.drew | ((with_reducible refine Below.setCell ?_ ?_ _); rotate_left; (first | exact Nat.le_refl _ | omega | (simp <;> omega))) | ((with_reducible refine Below.alloc ?_ ?_ _); rotate_left; (first | omega | (simp <;> omega))))
  · obtain ⟨ns, rfl⟩ := nat_of hp
    have h12 := puzB_t hp
    have hn6 : n ≤ 6 := h12.2.2.1
    rw [hp] at K
    have KV := Lib.hid (fun W (hb : Below w.heap.size w W) => pzSolved_any ns (some ⟨bk, off, none⟩) c n f W hp (rdi_below hR hb (Nat.le_refl _)))
    cases hsv : decide ((solP (ns : Int) n f).length = 1)
    · have hd : hrB (ns : Int) n f = false := by unfold hrB; rw [hp, hsv]; rfl
      rw [(hr_f hd).1, (hr_f hd).2, hd]
      rw [hsv] at KV
      clear hp hR hd hsv h12
      go_enter Try.func34, Try.ntmps34
      go_wp2_with fail
      rw [← hW]
      clear hW
      have p0 := P0.out.c0
      have p1 := P0.out.c1
      have pz := P0.out.z
      go_wp2_with fail
      refine (K.out _ HB.out).mono ?_; rintro e w1 ⟨rfl, hb1⟩
      have B1 := HB.out.trans (hb1.mono HB.out.size)
      have Q1 := pbw_below Q0.out hb1
      have P1 := pbx_below P0.out hb1
      clear hb1 P0 Q0 HB K p0 p1 pz
      have p0 := P1.c0
      have p1 := P1.c1
      have pz := P1.z
      go_wp2_with fail
      refine (KV.out _ B1).mono ?_; rintro e w2 ⟨rfl, hb2⟩
      have B2 := B1.trans (hb2.mono B1.size)
      have Q2 := pbw_below Q1 hb2
      have r0 := Q2.c0
      have r1 := Q2.c1
      have rz := Q2.z
      have rf0 := Q2.fz 0
      have rf1 := Q2.fz 1
      have zz := B2.size
      clear hb2 P1 Q1 Q2 B1 KV p0 p1 pz
      go_wp2_with fail
      refine bodyPost_ret (v := .tuple #[.agg #[.int .i64 0, .slice none 0 0], .bool false]) (by simp [results, Try.results34, go_sem, rz, r0, r1]) rfl (retZ_nil ?_)
      repeat (first | with_reducible assumption | with_reducible exact Below.refl _ _ | with_reducible apply Below.drew | ((with_reducible refine Below.setCell ?_ ?_ _); rotate_left; (first | exact Nat.le_refl _ | omega | (simp <;> omega))) | ((with_reducible refine Below.alloc ?_ ?_ _); rotate_left; (first | omega | (simp <;> omega))))
    · have hd : hrB (ns : Int) n f = true := by unfold hrB; rw [hp, hsv]; rfl
      rw [(hr_t hd).1, (hr_t hd).2.1, (hr_t hd).2.2, hd]
      rw [hsv] at KV
      obtain ⟨i0, hi0, hz0, hz1, hz2⟩ := clue_parts
      have HI := Lib.hid (And.intro hi0 (And.intro hz0 (And.intro hz1 hz2)))
      have HC1 : Hid (∀ W, Below w.heap.size w W → ∀ j u, (fl4 f n)[j]? = some u → W.cell? ((⟨bk, off, none⟩ : Addr).add j) = some u) := Lib.hid (fun W hW => fl4_cells (fun i hi => by
        obtain ⟨b', o', e, hb, hcell⟩ := hR (by omega)
        injection e with e
        injection e with e1 e2
        subst e1 e2
        exact (hW.cell (p := ⟨bk, off + i, none⟩) hb).trans (hcell i hi)))
      obtain ⟨R, hRR⟩ : ∃ R, R = hdGo ns n n f 0 := ⟨_, rfl⟩
      have HR0 := Lib.hid hRR
      have HP0 := Lib.hid hp
      rw [← hRR]
      clear hp hR hd hsv h12 hi0 hz0 hz1 hz2 hRR
      go_enter Try.func34, Try.ntmps34
      go_wp2_with fail
      rw [← hW]
      clear hW
      have p0 := P0.out.c0
      have p1 := P0.out.c1
      have pz := P0.out.z
      go_wp2_with fail
      refine (K.out _ HB.out).mono ?_; rintro e w1 ⟨rfl, hb1⟩
      have B1 := HB.out.trans (hb1.mono HB.out.size)
      have Q1 := Lib.hid (pbw_below Q0.out hb1)
      have P1 := Lib.hid (pbx_below P0.out hb1)
      clear hb1 P0 Q0 HB K p0 p1 pz
      have p0 := P1.out.c0
      have p1 := P1.out.c1
      have pz := P1.out.z
      go_wp2_with fail
      refine (KV.out _ B1).mono ?_; rintro e w2 ⟨rfl, hb2⟩
      have B2 := B1.trans (hb2.mono B1.size)
      have Q2 := Lib.hid (pbw_below Q1.out hb2)
      have P2 := Lib.hid (pbx_below P1.out hb2)
      clear hb2 P1 Q1 B1 KV p0 p1 pz
      have p0 := P2.out.c0
      have p1 := P2.out.c1
      have pz := P2.out.z
      have own1 : (w2.alloc (.cells #[] 38)).ownsRow w2.heap.size 38 4 (.slice (some ⟨w2.heap.size, 0, none⟩) 0 0) 0 [] := World.ownsRow_lit w2 #[] 0 (Nat.le_refl _) (by decide) rfl
      have bA := Below.alloc (Below.refl w2.heap.size w2) (Nat.le_refl _) (.cells #[] 38)
      have BA := B2.trans (bA.mono B2.size)
      go_wp2_with (at_builtin; go_loud (refine wpList_append_own _ rfl (.tmp 19) (.tmp 21) 26 rfl w2.heap.size 38 i0 (.agg #[.int .i64 0, .int .i64 0, .int .i64 0, .int .i64 0]) 4 32 Try.underlying26 HI.out.1 HI.out.2.1 HI.out.2.2.1 HI.out.2.2.2 rfl (by decide) _ 0 [] rfl own1 ⟨bk, off, none⟩ n c (fl4 f n) rfl (fl4_len _ _) (HC1.out _ BA) (fl4_one _ _) (by unfold maxLen; omega) (by omega) bA.size ?_))
      intro v3 w3 own3 hgr _
      have b3 := bA.grown hgr bA.size (fun g hg => (World.ownsRow.lt own1 g hg).1)
      have B3 := B2.trans (b3.mono B2.size)
      have R3 : Hid (RowC w3 w2.heap.size v3 n f) := Lib.hid (by unfold RowC; simpa using own3)
      have Q3 := Lib.hid (pbw_below Q2.out b3)
      have P3 := Lib.hid (pbx_below P2.out b3)
      have hw2 := Q2.out.z
      have BW2 := B2
      clear own1 bA BA own3 hgr P2 Q2 p0 p1 pz B2
      go_wp2_with fail
      go_loopg [4, 5] n (fun gg a i wr => ∃ (m k : Nat) (h : Nat → Int) (v : Value), v = a ∧ k ≤ m ∧ m ≤ 6 ∧ gg = m - k ∧ i = .int .i64 (k : Int) ∧ Hid (puzB (ns : Int) m h = true) ∧ Hid (hdGo ns (m - k) m h k = R) ∧ Below w2.heap.size w2 wr ∧ Hid (RowC wr w2.heap.size v m h) ∧ Hid (Pbx wr w.heap.size (ns : Int) (some ⟨bk, off, none⟩) n c) ∧ Hid (Pbw wr (w.heap.size + 1) (.int .i64 0) (.slice none 0 0)))
      case atStart => exact ⟨n, 0, f, _, rfl, Nat.zero_le _, hn6, rfl, rfl, HP0, Lib.hid HR0.out.symm, b3, R3, P3, Q3⟩
      case round =>
        clear R3 P3 Q3 b3 HR0 HP0
        obtain ⟨m, k, h, v, rfl, hk, hm6, hgg, rfl, HP, HR, hB, hr, P, Q⟩ := hrel
        rename World => wo
        have HGK := Lib.hid hgg
        clear hgg
        obtain ⟨Av, cv, rfl, hnv, hcv, rwv⟩ := rowC_rwi hr.out
        clear rwv
        have hzo := hB.size
        have BO := BW2.trans (hB.mono BW2.size)
        have p0 := P.out.c0
        have p1 := P.out.c1
        have pz := P.out.z
        by_cases hlt : k < m
        · obtain ⟨b, c', e, q1, q2, q3, hRv⟩ := rowC_at hr.out (by omega)
          injection e with e1 e2 e3
          subst e1 e3
          have KW := Lib.hid (pzWithout_any b 0 cv m k h wo hlt hm6 q1 q2 hRv)
          have KT := Lib.hid (fun A c' W (hb : RdI W W.heap.size A ((m - 1) * 4) (woF h k)) => pzSolved_any ns A c' (m - 1) (woF h k) W (puzB_wo HP.out hlt) hb)
          have HP2 := Lib.hid (puzB_wo HP.out hlt)
          rw [solP_t HP2.out] at KT
          have HT := Lib.hid (fun hh => (hd_t (ns := ns) (f := h) hlt hh).trans HR.out)
          have HF := Lib.hid (fun hh => (hd_f (ns := ns) (f := h) hlt hh).trans HR.out)
          clear hRv
          generalize (solK (woF h k) (m - 1) (ns + 1) ((ns + 1) * (ns + 1))).length = x at *
          go_wp2_with fail
          refine KW.out.mono ?_; rintro e w4 ⟨⟨v4, rfl, own4⟩, hb4⟩
          obtain ⟨A4, c4, rfl, hn4, hc4, rw4⟩ := rowC_rwi own4
          have B4 := hB.trans (hb4.mono hzo)
          have R4 := Lib.hid (rowC_base own4 hzo)
          have RO4 := Lib.hid (rowC_below hr.out hb4 (Nat.le_refl _))
          have P4 := Lib.hid (pbx_below P.out hb4)
          have Q4 := Lib.hid (pbw_below Q.out hb4)
          have RD4 := Lib.hid (rdi_of_rw rw4 (Nat.le_refl _))
          clear own4 hb4 rw4 hB hr P Q KW p0 p1 pz BO hn4 hc4
          have p0 := P4.out.c0
          have p1 := P4.out.c1
          have pz := P4.out.z
          go_wp2_with fail
          refine (KT.out _ _ _ RD4.out).mono ?_; rintro e w5 ⟨rfl, hb5⟩
          have B5 := B4.trans (hb5.mono B4.size)
          have R5 := Lib.hid (rowC_below R4.out hb5 (Nat.le_refl _))
          have RO5 := Lib.hid (rowC_below RO4.out hb5 (Nat.le_refl _))
          have P5 := Lib.hid (pbx_below P4.out hb5)
          have Q5 := Lib.hid (pbw_below Q4.out hb5)
          clear hb5 B4 R4 RO4 P4 Q4 RD4 KT p0 p1 pz
          by_cases hx : x = 1
          · have HT2 := Lib.hid (HT.out hx)
            rw [decide_eq_true hx]
            clear HT HF
            go_wp2_with fail
            go_roundg (m - 1 - k)
            case measure => have := HGK.out; omega
            case rel => exact ⟨m - 1, k, woF h k, _, rfl, by omega, by omega, rfl, by first | rfl | go_num, HP2, HT2, B5, R5, P5, Q5⟩
          · have HF2 := Lib.hid (HF.out hx)
            rw [decide_eq_false hx]
            clear HT HF
            go_wp2_with fail
            go_roundg (m - (k + 1))
            case measure => have := HGK.out; omega
            case rel => exact ⟨m, k + 1, h, _, rfl, by omega, hm6, rfl, by go_num, HP, HF2, B5, RO5, P5, Q5⟩
        · obtain rfl : k = m := by omega
          have hF : R = (k, h) := by
            have := HR.out
            rw [Nat.sub_self] at this
            exact this.symm
          have r0 := Q.out.c0
          have r1 := Q.out.c1
          have rz := Q.out.z
          have rf0 := Q.out.fz 0
          have rf1 := Q.out.fz 1
          have hF2 := Lib.hid hF
          clear hF
          go_wp2_with fail
          refine bodyPost_ret (v := .tuple #[.agg #[.int .i64 (ns : Int), .slice Av k cv], .bool true]) (by simp [results, Try.results34, go_sem, rz, r0, r1]) rfl ?_
          rw [hF2.out]
          exact retZ_row (rowC_set (rowC_set hr.out (by show w.heap.size + 1 < _; exact hw2) _) (by show w.heap.size + 1 < _; exact hw2) _) BW2 (by repeat (first | with_reducible assumption | with_reducible exact Below.refl _ _ | with_reducible apply Below.drew | ((with_reducible refine Below.setCell ?_ ?_ _); rotate_left; (first | exact Nat.le_refl _ | omega | (simp <;> omega))) | ((with_reducible refine Below.alloc ?_ ?_ _); rotate_left; (first | omega | (simp <;> omega)))))
end Go.Proofs.Ytacabmbajadbgaa

