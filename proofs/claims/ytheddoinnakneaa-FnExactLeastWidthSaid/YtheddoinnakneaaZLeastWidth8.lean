/- joined: WnB Z -/
import Derived.Test.YtheddoinnakneaaZLeastWidth7
import Derived.Deep.Slices
import Derived.Deep.Fields
/- contracts: LeastWidth, IsThin, the program -/
namespace Go.Proofs.Ytheddoinnakneaa
open Go.ChangeShapes Go.WideShapes Go.ChangeAt Go.RowKit Go.Joins
set_option linter.unusedVariables false
set_option linter.unusedSimpArgs false
set_option maxRecDepth 4000
theorem dirG_mem {l : List (Int × Int)} (hg : Good l) {m : Nat} {t : Int × Int} : t ∈ dirG l m ↔ toldB t.1 t.2 = true ∧ wdL l t.1 t.2 ≤ m := dirD_mem (base_model hg)
/-- each of the directions in which the width is least has that width -/
theorem dirG_least {l : List (Int × Int)} (hg : Good l) {i : Nat} (hi : i < (dirG l (wlG l)).length) : wdL l (pt (dirG l (wlG l)) i).1 (pt (dirG l (wlG l)) i).2 = (wlG l : Int) := by
  have h := (dirG_mem hg).1 (pt_mem (s := dirG l (wlG l)) (i := i) hi)
  obtain ⟨f1, f2, f3, f4, f5⟩ := wl_facts (base_model hg) (M := 80) (box_told (Or.inl (wd_box hg)))
  have e : (wlG l : Int) = wlI (wdL l) (subP (vx l 1) (vx l 0)) (subP (vx l 2) (vx l 0)) 80 := by unfold wlG; omega
  have := f5 _ h.1
  omega
theorem dirG_sml {l : List (Int × Int)} (hg : Good l) {i : Nat} (hi : i < (dirG l (wlG l)).length) : Sml l (pt (dirG l (wlG l)) i) := by
  have h := pt_mem (s := dirG l (wlG l)) (i := i) hi
  have h2 := wlG_facts hg
  rw [← dirG_prog hg] at h
  exact told_sml hg h2.2.1 (by rw [dirG_prog hg] at h ⊢; exact h)
theorem thin_is {l : List (Int × Int)} (hg : Good l) : decide (0 < (dirG l 1).length) = decide ((wlG l : Int) = 1) := by
  obtain ⟨f1, f2, f3, f4, f5⟩ := wl_facts (base_model hg) (M := 80) (box_told (Or.inl (wd_box hg)))
  have e : (wlG l : Int) = wlI (wdL l) (subP (vx l 1) (vx l 0)) (subP (vx l 2) (vx l 0)) 80 := by unfold wlG; omega
  have h := f4 1
  rw [decide_eq_decide]
  unfold dirG
  rw [h]
  omega
set_option maxHeartbeats 2000000 in
theorem implLeastWidth_any (A : Option Addr) (c : Nat) (l : List (Int × Int)) (w : World) (hn : l.length ≤ 1048576) (hR : Rd w w.heap.size A l) :
    Calls Try.prog 18 #[.slice A l.length c] w fun e w' => e = .returned (.tuple #[.int .i64 (lwS l), .bool (goodB l)]) ∧ Below w.heap.size w w' := by
  have K := Lib.hid (implIsPolygon_any A c l w hn hR)
  by_cases hg : goodB l = true
  · have hgg : Good l := by unfold goodB at hg; simpa using hg
    have h0 := (wlG_facts hgg).2.2.1
    have K2 := Lib.hid (fun W (hb : Below w.heap.size w W) => leastSpans_any A c l W hgg (rd_more (rd_below hR hb (Nat.le_refl _)) hb.size))
    have hs := dirG_sml hgg h0
    have KW := Lib.hid (fun W => width_any (pt (dirG l (wlG l)) 0).1 (pt (dirG l (wlG l)) 0).2 (loW l (pt (dirG l (wlG l)) 0).1 (pt (dirG l (wlG l)) 0).2 l.length) (hiW l (pt (dirG l (wlG l)) 0).1 (pt (dirG l (wlG l)) 0).2 l.length) W hs.1 hs.2.1 hs.2.2.1 hs.2.2.2)
    have hw : hiW l (pt (dirG l (wlG l)) 0).1 (pt (dirG l (wlG l)) 0).2 l.length - loW l (pt (dirG l (wlG l)) 0).1 (pt (dirG l (wlG l)) 0).2 l.length = (wlG l : Int) := dirG_least hgg h0
    rw [hw] at KW
    have hlw : lwS l = (wlG l : Int) := by unfold lwS; rw [if_pos hg]
    rw [hlw, hg]
    rw [hg] at K
    generalize dirG l (wlG l) = s at *
    clear hlw hg hgg hR hs hw
    go_enter Try.func18, Try.ntmps18
    go_wp2_with fail
    refine K.out.mono ?_; rintro e w1 ⟨rfl, hb1⟩
    go_wp2_with fail
    refine (K2.out _ hb1).mono ?_; rintro e w2 ⟨⟨v, rfl, hrv⟩, hb2⟩
    rcases own_val hrv with ⟨rfl, hx⟩ | ⟨g, cap, rfl, _, _, hgb, hgz⟩
    · exact absurd hx (by omega)
    obtain ⟨c0, c1, c2, c3⟩ := rowP_at hrv (i := 0) h0
    simp only [Nat.zero_mul, Nat.zero_add] at c0 c1 c2 c3
    have hn1 : (0 : Int) < (s.length : Int) := by omega
    have B2 := hb1.trans (hb2.mono hb1.size)
    clear hrv hb1 hb2 K K2
    go_wp2_with fail
    refine (KW.out _).mono ?_; rintro e w3 ⟨rfl, hb3⟩
    have B3 := B2.trans (hb3.mono B2.size)
    go_wp2_with fail
    go_ret2
    exact ⟨rfl, B3⟩
  · have hgf : goodB l = false := by simpa using hg
    have hlw : lwS l = 0 := by unfold lwS; rw [hgf]; rfl
    rw [hlw, hgf]
    rw [hgf] at K
    clear hlw hg hgf hR
    go_enter Try.func18, Try.ntmps18
    go_wp2_with fail
    refine K.out.mono ?_; rintro e w1 ⟨rfl, hb1⟩
    go_wp2_with fail
    go_ret2
    exact ⟨rfl, hb1⟩
theorem implIsThin_any (A : Option Addr) (c : Nat) (l : List (Int × Int)) (w : World) (hn : l.length ≤ 1048576) (hR : Rd w w.heap.size A l) :
    Calls Try.prog 29 #[.slice A l.length c] w fun e w' => e = .returned (.tuple #[.bool (thS l), .bool (goodB l)]) ∧ Below w.heap.size w w' := by
  have K := Lib.hid (implLeastWidth_any A c l w hn hR)
  have hth : thS l = decide (lwS l = 1) := by
    unfold thS lwS
    by_cases hg : goodB l = true
    · have hgg : Good l := by unfold goodB at hg; simpa using hg
      rw [if_pos hg, hg, thin_is hgg, Bool.true_and]
    · have hgf : goodB l = false := by simpa using hg
      rw [hgf, Bool.false_and, if_neg (by decide)]; rfl
  rw [hth]
  generalize lwS l = x at *
  generalize goodB l = gb at *
  clear hth hR
  by_cases hx : x = 1
  · subst hx
    go_enter Try.func29, Try.ntmps29
    go_wp2_with fail
    refine K.out.mono ?_; rintro e w1 ⟨rfl, hb1⟩
    go_wp2_with fail
    go_ret2
    exact ⟨rfl, hb1⟩
  · rw [decide_eq_false hx]
    go_enter Try.func29, Try.ntmps29
    go_wp2_with fail
    refine K.out.mono ?_; rintro e w1 ⟨rfl, hb1⟩
    go_wp2_with fail
    go_ret2
    exact ⟨by simp [hx], hb1⟩
end Go.Proofs.Ytheddoinnakneaa
/- an argument that is a list of points, opened -/
namespace Go.Proofs.Ytheddoinnakneaa
open Go.ChangeShapes Go.WideShapes Go.ChangeAt Go.RowKit Go.Joins
set_option linter.unusedVariables false
set_option linter.unusedSimpArgs false
set_option maxRecDepth 4000
open Go.Deep
theorem lt_of_cell {w : World} {a : Addr} {u : Value} (h : w.cell? a = some u) : a.block < w.heap.size := by
  rcases Nat.lt_or_ge a.block w.heap.size with h1 | h1
  · exact h1
  · unfold World.cell? at h
    rw [Array.getElem?_eq_none h1] at h
    simp at h
section
variable {H : Type} {enc : TypeId × Value → H}
/-- a point of the laws' package, read from two cells -/
theorem read_peg {w : World} {base : Nat} {spare : Nat → Bool} {held : Bool} {fuel : Nat} {c0 c1 : Value} {x : DataW H × List MemPlace}
    (h : DataW.trod enc Try.prog w base spare held fuel 64 [c0, c1] = some x) : ∃ a b : Int, c0 = .int .i64 a ∧ c1 = .int .i64 b := by
  obtain ⟨xs, n, _, _, _, hlen, hg⟩ := DataW.trod_struct Try.underlying64 h
  have g0 : DataW.trod enc Try.prog w base spare held n 3 ((List.drop 0 [c0, c1]).take (Try.prog.cellsOf 3)) = xs[0]? := hg 0 _ rfl
  have g1 : DataW.trod enc Try.prog w base spare held n 3 ((List.drop 1 [c0, c1]).take (Try.prog.cellsOf 3)) = xs[1]? := hg 1 _ rfl
  have k3 : Try.prog.cellsOf 3 = 1 := by kernel_rfl
  rw [k3] at g0 g1
  match xs, hlen with
  | [y0, y1], _ =>
    simp only [List.drop_zero, List.drop_succ_cons, List.take_succ_cons, List.take_zero, List.getElem?_cons_zero, List.getElem?_cons_succ] at g0 g1
    obtain ⟨a, e0, _, _⟩ := DataW.trod_int Try.underlying3 g0
    obtain ⟨b, e1, _, _⟩ := DataW.trod_int Try.underlying3 g1
    simp only [List.cons.injEq, and_true] at e0 e1
    exact ⟨a, b, e0, e1⟩
/-- an argument that is a list of points -/
theorem open_pegs {w : World} {r : Reach} {b0 base : Nat} {spare : Nat → Bool} {v : Value} {d : DataW H} {p : List MemPlace} (hv : Value.okWide Try.prog w r b0 22 v)
    (h : DataW.Trod enc Try.prog w base spare true 22 v d p) : ∃ (A : Option Addr) (c : Nat) (l : List (Int × Int)), v = .slice A l.length c ∧ l.length ≤ c ∧ c ≤ maxLen ∧ Rd w w.heap.size A l := by
  obtain ⟨a0, len, cap, rfl⟩ := okWide_slice Try.underlying22 hv
  obtain ⟨fuel, hf⟩ := h
  rcases open_slice Try.underlying22 hf with ⟨hcs, _⟩ | ⟨a, len', cap', m, n, D, Pl, hcs, _, hl, hm, hmm, _, hi⟩
  · simp [Value.cells] at hcs
    obtain ⟨rfl, rfl, rfl⟩ := hcs
    exact ⟨none, 0, [], rfl, by simp, by simp, fun h => absurd h (by simp)⟩
  · simp [Value.cells] at hcs
    obtain ⟨rfl, rfl, rfl⟩ := hcs
    have hml : len ≤ m := by rw [hmm]; split <;> omega
    have hC : Try.prog.cellsOf 64 = 2 := cells64
    have key : ∀ i, ∃ q : Int × Int, i < len → w.cell? (a.add (i * 2)) = some (.int .i64 q.1) ∧ w.cell? ((a.add (i * 2)).add 1) = some (.int .i64 q.2) := fun i => by
      by_cases hlt : i < len
      · obtain ⟨cs', hc, ht⟩ := hi i (by omega)
        rw [hC] at hc
        obtain ⟨_, hcl, hat⟩ := World.cells?_some hc
        match cs', hcl with
        | [c0, c1], _ =>
          obtain ⟨x, y, rfl, rfl⟩ := read_peg ht
          have h0 := hat 0 (by omega)
          have h1 := hat 1 (by omega)
          refine ⟨(x, y), fun _ => ⟨?_, h1⟩⟩
          have : (a.add (i * 2)).add 0 = a.add (i * 2) := by unfold Addr.add; simp
          rw [this] at h0
          exact h0
      · exact ⟨(0, 0), fun h => absurd h hlt⟩
    refine ⟨some a, cap, (List.range len).map fun i => Classical.choose (key i), by simp, by simpa using hl, hm, fun hpos => ?_⟩
    have hpos' : 0 < len := by simpa using hpos
    have k0 := (Classical.choose_spec (key 0) hpos').1
    obtain ⟨b, off, spot⟩ := a
    have hspot : spot = none := by simpa [Addr.add] using World.cell?_spot k0
    subst hspot
    refine ⟨b, off, rfl, ?_, fun i q hq => ?_⟩
    · have := lt_of_cell k0
      rw [add_plain] at this
      exact this
    · have hlt : i < len := by
        have := (List.getElem?_eq_some_iff.1 hq).1
        simpa using this
      have e : q = Classical.choose (key i) := by
        rw [List.getElem?_map, List.getElem?_range hlt] at hq
        simpa using hq.symm
      have hs := Classical.choose_spec (key i) hlt
      rw [← e] at hs
      rw [add_plain, add_plain] at hs
      exact hs
end
end Go.Proofs.Ytheddoinnakneaa

