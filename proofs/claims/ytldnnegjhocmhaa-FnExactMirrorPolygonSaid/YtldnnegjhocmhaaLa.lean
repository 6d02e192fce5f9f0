/- rows of points that a call appends to; the model's list told backwards -/
import Derived.Test.YtldnnegjhocmhaaSa
import Derived.Test.YtldnnegjhocmhaaK
import Derived.Laws.OwnMore
import Derived.OwnWalk
import Derived.RegionTactic
namespace Go.Proofs.Ytldnnegjhocmhaa
open Go.ChangeShapes Go.WideShapes Go.ChangeAt Go.RowKit Go.Joins
set_option linter.unusedVariables false
set_option linter.unusedSimpArgs false
/-- points as cells -/
def flat (l : List (Int × Int)) : List Value := l.flatMap fun p => [.int .i64 p.1, .int .i64 p.2]
theorem flat_nil : flat [] = [] := rfl
theorem flat_snoc (l : List (Int × Int)) (p : Int × Int) : flat (l ++ [p]) = flat l ++ [.int .i64 p.1, .int .i64 p.2] := by
  unfold flat; rw [List.flatMap_append]; rfl
theorem flat_get (l : List (Int × Int)) : ∀ i, i < l.length → (flat l)[i * 2]? = some (.int .i64 (pt l i).1) ∧ (flat l)[i * 2 + 1]? = some (.int .i64 (pt l i).2) := by
  induction l with
  | nil => intro i h; simp at h
  | cons p l ih =>
    intro i hi
    have e : flat (p :: l) = [.int .i64 p.1, .int .i64 p.2] ++ flat l := rfl
    rw [e]
    cases i with
    | zero => exact ⟨rfl, rfl⟩
    | succ i =>
      have h := ih i (by simpa using hi)
      have e2 : pt (p :: l) (i + 1) = pt l i := rfl
      rw [e2, show (i + 1) * 2 = 2 + i * 2 by omega, List.getElem?_append_right (by simp), List.getElem?_append_right (by simp; omega)]
      simpa [show 2 + i * 2 - 2 = i * 2 by omega, show 2 + i * 2 + 1 - 2 = i * 2 + 1 by omega] using h
/-- what a row of the call's own reads as -/
theorem rw_of_own {w : World} {base : Nat} {v : Value} {l : List (Int × Int)} (h : w.ownsRow base 38 2 v l.length (flat l)) :
    ∃ A c, v = .slice A l.length c ∧ l.length ≤ c ∧ c ≤ maxLen ∧ Rw w base w.heap.size A l.length (pt l) := by
  have h0 := h
  obtain ⟨h1, h2⟩ := h
  rcases h2 with ⟨hv, hn⟩ | ⟨g, cap, cur, hv, hg, hh, hc, hm, hs, ht⟩
  · exact ⟨none, 0, by rw [hv, hn], by omega, by simp [maxLen], fun hp => absurd hp (by omega)⟩
  · subst hv
    refine ⟨some ⟨g, 0, none⟩, cap, rfl, hc, hm, fun hp => ⟨g, 0, rfl, hg, (h0.lt g rfl).2, fun i hi => ?_⟩⟩
    have hf := flat_get l i hi
    rw [Nat.zero_add]
    exact ⟨⟨(h0.cellAt (i * 2) (by omega)).trans hf.1, (h0.cellAt (i * 2 + 1) (by omega)).trans hf.2⟩, h0.frozenAt _, h0.frozenAt _⟩
/-- the first k of the points f 0, f 1, .. -/
def firsts (f : Nat → Int × Int) (k : Nat) : List (Int × Int) := (List.range k).map f
theorem firsts_len (f : Nat → Int × Int) (k : Nat) : (firsts f k).length = k := by unfold firsts; simp
theorem firsts_succ (f : Nat → Int × Int) (k : Nat) : firsts f (k + 1) = firsts f k ++ [f k] := by unfold firsts; rw [List.range_succ, List.map_append]; rfl
theorem firsts_pt (f : Nat → Int × Int) (k i : Nat) (h : i < k) : pt (firsts f k) i = f i := by
  unfold pt firsts; rw [List.getElem?_map, List.getElem?_range h]; rfl
theorem firsts_get (f : Nat → Int × Int) (k i : Nat) (h : i < k) : (firsts f k)[i]? = some (f i) := by
  unfold firsts; rw [List.getElem?_map, List.getElem?_range h]; rfl
/-- a row that has grown by append: the first k points -/
def Row (w : World) (base : Nat) (v : Value) (f : Nat → Int × Int) (k : Nat) : Prop := w.ownsRow base 38 2 v k (flat (firsts f k))
theorem row_nil (w : World) (base : Nat) (f : Nat → Int × Int) : Row w base (.slice none 0 0) f 0 := World.ownsRow_nil w base _ _
theorem row_step {w : World} {base : Nat} {v : Value} {f : Nat → Int × Int} {k : Nat} (h : w.ownsRow base 38 2 v (k + 1) (flat (firsts f k) ++ [.int .i64 (f k).1, .int .i64 (f k).2])) : Row w base v f (k + 1) := by
  unfold Row; rw [firsts_succ, flat_snoc]; exact h
theorem row_out {w : World} {base : Nat} {v : Value} {f : Nat → Int × Int} {k : Nat} (h : Row w base v f k) :
    ∃ A c, v = .slice A k c ∧ k ≤ c ∧ c ≤ maxLen ∧ Rw w base w.heap.size A k f := by
  have h' : w.ownsRow base 38 2 v (firsts f k).length (flat (firsts f k)) := by rw [firsts_len]; exact h
  obtain ⟨A, c, e, h1, h2, h3⟩ := rw_of_own h'
  rw [firsts_len] at e h1 h3
  exact ⟨A, c, e, h1, h2, rw_same h3 fun i hi => firsts_pt f k i hi⟩
theorem row_alloc {w : World} {base : Nat} {v : Value} {f : Nat → Int × Int} {k : Nat} (h : Row w base v f k) (o : Obj) : Row (w.alloc o) base v f k := World.ownsRow.alloc h o
theorem row_below {w w' : World} {base B : Nat} {v : Value} {f : Nat → Int × Int} {k : Nat} (h : Row w base v f k) (hb : Below B w w') (hB : w.heap.size ≤ B) : Row w' base v f k := by
  obtain ⟨h1, h2⟩ := h
  rcases h2 with h2 | ⟨g, cap, cur, hv, hg, hh, r⟩
  · exact ⟨h1, .inl h2⟩
  · have hl := World.ownsRow.lt (w := w) (base := base) (e := 38) (size := 2) (v := v) (n := k) (xs := flat (firsts f k)) ⟨h1, .inr ⟨g, cap, cur, hv, hg, hh, r⟩⟩ g (by rw [hv]; rfl)
    exact ⟨h1, .inr ⟨g, cap, cur, hv, hg, (hb.block g (by omega)).trans hh, r⟩⟩
/-- behind an append -/
theorem row_push {w W w1 : World} {v v' : Value} {f : Nat → Int × Int} {k : Nat} (hB : Below w.heap.size w W) (hr : Row W w.heap.size v f k)
    (ho : w1.ownsRow w.heap.size 38 2 v' (k + 1) (flat (firsts f k) ++ [.int .i64 (f k).1, .int .i64 (f k).2])) (hg : W.grownBy w1 v.ownBlock) : Row w1 w.heap.size v' f (k + 1) ∧ Below w.heap.size w w1 :=
  ⟨row_step ho, hB.grown hg hB.size fun g hgk => (World.ownsRow.lt hr g hgk).1⟩
theorem two_cells {w : World} {g : Nat} {x y : Value} (h1 : w.cell? ⟨g, 0, none⟩ = some x) (h2 : w.cell? ⟨g, 1, none⟩ = some y) : ∀ j u, [x, y][j]? = some u → w.cell? ((⟨g, 0, none⟩ : Addr).add j) = some u := by
  intro j u hj
  match j, hj with
  | 0, hj => simp at hj; subst hj; exact h1
  | 1, hj => simp at hj; subst hj; exact h2
theorem two_one (x y : Int) : ∀ u ∈ [Value.int .i64 x, Value.int .i64 y], u.oneCell' = true := by
  intro u hu; simp at hu; rcases hu with rfl | rfl <;> rfl
/-- what a call returns that gives a list of points and says whether there is one -/
def RetL (w : World) (m : List (Int × Int)) (b : Bool) (e : Ending) (w' : World) : Prop :=
  ∃ A c, e = .returned (.tuple #[.slice A m.length c, .bool b]) ∧ m.length ≤ c ∧ c ≤ maxLen ∧ Below w.heap.size w w' ∧ Rw w' w.heap.size w'.heap.size A m.length (pt m)
/-- what a call returns that gives a list of points -/
def RetP (w : World) (m : List (Int × Int)) (e : Ending) (w' : World) : Prop :=
  ∃ A c, e = .returned (.slice A m.length c) ∧ m.length ≤ c ∧ c ≤ maxLen ∧ Below w.heap.size w w' ∧ Rw w' w.heap.size w'.heap.size A m.length (pt m)
theorem retP_row {w w' : World} {v : Value} {f : Nat → Int × Int} {k : Nat} (h : Row w' w.heap.size v f k) (hb : Below w.heap.size w w') : RetP w (firsts f k) (.returned v) w' := by
  obtain ⟨A, c, rfl, h1, h2, h3⟩ := row_out h
  refine ⟨A, c, by rw [firsts_len], by rw [firsts_len]; exact h1, h2, hb, ?_⟩
  rw [firsts_len]
  exact rw_same h3 fun i hi => (firsts_pt f k i hi).symm
theorem retL_nil {w w' : World} (hb : Below w.heap.size w w') : RetL w [] false (.returned (.tuple #[.slice none 0 0, .bool false])) w' :=
  ⟨none, 0, rfl, by simp, by simp [maxLen], hb, fun h => absurd h (by simp)⟩
/-- corner number n - i: told backwards from the same corner -/
def backF (l : List (Int × Int)) (i : Nat) : Int × Int := vx l (l.length - i)
set_option maxHeartbeats 2000000 in
theorem pgBack_any (A : Option Addr) (c : Nat) (l : List (Int × Int)) (w : World) (h3 : 1 ≤ l.length) (hn : l.length ≤ 10) (hR : Rd w w.heap.size A l) :
    Calls Try.prog 39 #[.slice A l.length c] w (RetP w (firsts (backF l) l.length)) := by
  obtain ⟨b, off, rfl, hb, HC⟩ := pts_of (by omega) hR
  obtain ⟨i0, hi0, hz0, hz1, hz2⟩ := info_parts peg_info
  have HI := Lib.hid (And.intro hi0 (And.intro hz0 (And.intro hz1 hz2)))
  clear hi0 hz0 hz1 hz2 hR
  have h0 := HC.out w (Below.refl _ _) 0 (by omega)
  simp only [Nat.zero_mul, Nat.add_zero] at h0
  have hB0 : Hid (backF l 0 = vx l 0) := Lib.hid (by unfold backF; rw [Nat.sub_zero, ← vx_per, Nat.mod_self])
  have hBk : Hid (∀ k, backF l k = vx l (l.length - k)) := Lib.hid (fun _ => rfl)
  generalize hN : l.length = n at *
  have HN := Lib.hid hN
  clear hN
  have hr0 : Hid (Row (w.alloc (.cells #[.int .i64 (vx l 0).1, .int .i64 (vx l 0).2] 38)) w.heap.size (.slice (some ⟨w.heap.size, 0, none⟩) 1 1) (backF l) 1) := Lib.hid (by
    have := World.ownsRow_lit (base := w.heap.size) (e := 38) (size := 2) w #[.int .i64 (vx l 0).1, .int .i64 (vx l 0).2] 1 (Nat.le_refl _) (by simp [maxLen]) rfl
    unfold Row
    rw [firsts_succ, flat_snoc, hB0.out]
    exact this)
  have b0 := Below.alloc (Below.refl w.heap.size w) (Nat.le_refl _) (.cells #[.int .i64 (vx l 0).1, .int .i64 (vx l 0).2] 38)
  have hn0 : 0 < n := by omega
  go_enter Try.func39, Try.ntmps39
  go_wp2_with fail
  clear h0
  go_loopg [3, 4] n (fun g s i wr => ∃ (k : Nat) (v : Value), s = v ∧ 1 ≤ k ∧ k ≤ n ∧ g = n + 1 - k ∧ i = .int .i64 ((n : Int) - (k : Int)) ∧ Below w.heap.size w wr ∧ Hid (Row wr w.heap.size v (backF l) k))
  case atStart => exact ⟨1, _, rfl, Nat.le_refl _, by omega, by omega, by simp, b0, hr0⟩
  case round =>
    clear b0 hr0
    obtain ⟨k, v, rfl, hk1, hk, hg, rfl, hB, hr⟩ := hrel
    rename World => wo
    have HGK := Lib.hid hg
    clear hg
    by_cases hlt : k < n
    · have hq := HC.out wo hB (n - k) (by omega)
      have e2 : ((n : Int) - (k : Int)).toNat = n - k := by omega
      have e3 : (0 : Int) < (n : Int) - (k : Int) := by omega
      have e4 : (0 : Int) ≤ (n : Int) - (k : Int) := by omega
      have e5 : (n : Int) - (k : Int) < (n : Int) := by omega
      have hzB := hB.size
      have RA := Lib.hid (row_alloc hr.out (.cells #[.int .i64 (vx l (n - k)).1, .int .i64 (vx l (n - k)).2] 38))
      have BA := Lib.hid (Below.alloc hB hzB (.cells #[.int .i64 (vx l (n - k)).1, .int .i64 (vx l (n - k)).2] 38))
      clear hr
      go_wp2_with (at_builtin; refine wpList_append_own _ rfl (.tmp 16) (.tmp 21) 26 rfl w.heap.size 38 i0 (.agg #[.int .i64 0, .int .i64 0]) 2 16 Try.underlying26 HI.out.1 HI.out.2.1 HI.out.2.2.1 HI.out.2.2.2 rfl (by decide) _ k (flat (firsts (backF l) k)) rfl RA.out ⟨wo.heap.size, 0, none⟩ 1 1 [.int .i64 (vx l (n - k)).1, .int .i64 (vx l (n - k)).2] rfl rfl (two_cells (by go_simp) (by go_simp)) (two_one _ _) (by unfold maxLen; omega) (by omega) (by simp; omega) ?_)
      intro v' w1 hown hgr _
      rw [← hBk.out k] at hown
      have RB := row_push BA.out RA.out hown hgr
      have R1 := Lib.hid RB.1
      have B1 := RB.2
      clear RB hown hgr hq e2 e3 e4 e5
      go_wp2_with fail
      go_roundg (n + 1 - (k + 1))
      case measure => have := HGK.out; omega
      case rel => exact ⟨k + 1, _, rfl, by omega, by omega, rfl, by go_num, B1, R1⟩
    · have hkn : n = k := by omega
      subst hkn
      go_wp2_with fail
      go_ret
      exact retP_row hr.out hB
end Go.Proofs.Ytldnnegjhocmhaa
