/- contract: the program's corners brought elsewhere by a method of a value -/
import Derived.Test.YtieimijkkjhegaaLd
namespace Go.Proofs.Ytieimijkkjhegaa
open Go.ChangeShapes Go.WideShapes Go.ChangeAt Go.RowKit Go.Joins
set_option linter.unusedVariables false
set_option linter.unusedSimpArgs false
set_option maxRecDepth 4000
set_option maxHeartbeats 4000000 in
theorem bringCornersB_any (A : Option Addr) (c : Nat) (l : List (Int × Int)) (fid : Nat) (pre cap : Array Value) (f : Nat → Int × Int) (w : World) (hn : l.length ≤ 1048576) (hR : Rd w w.heap.size A l)
    (hcf : ∀ args W, (callFunc fid args).run Try.prog W = .ok (Next.enter fid args) W)
    (hK : Good l → ∀ i, i < l.length → ∀ W, Below w.heap.size w W → Calls Try.prog fid (pre ++ #[.agg #[.int .i64 (vx l i).1, .int .i64 (vx l i).2]] ++ cap) W fun e w' => e = .returned (.agg #[.int .i64 (f i).1, .int .i64 (f i).2]) ∧ Below W.heap.size W w') :
    Calls Try.prog 71 #[.slice A l.length c, .func (.func fid) pre cap] w (RetL w (sel (goodB l && allB f l.length) (firsts f l.length)) (goodB l && allB f l.length)) := by
  have K := Lib.hid (implIsPolygon_any A c l w hn hR)
  by_cases hgd : Good l
  · have hgt := goodB_true hgd
    rw [hgt] at K ⊢
    rw [Bool.true_and]
    obtain ⟨i0, hi0, hz0, hz1, hz2⟩ := info_parts peg_info
    have h10 := hgd.few
    have hmk := fun W => run_make (P := Try.prog) W 26 42 i0 _ Try.underlying26 hi0 hz0 .i64 .i64 (l.length : Int) (l.length : Int) (by omega) (by omega) (by rw [hz2]; omega) (by omega)
    obtain ⟨b, off, rfl, hb, HC⟩ := pts_of (by omega) hR
    have HF := Lib.hid (hK hgd)
    have KA := Lib.hid (fun W g (h : Set W g l.length l.length (firsts f l.length)) => (show Calls Try.prog 109 #[.slice (some ⟨g, 0, none⟩) l.length l.length] W fun e w' => e = .returned (.bool (allB f l.length)) ∧ Below W.heap.size W w' from by
      have := arePegs_any (some ⟨g, 0, none⟩) l.length (firsts f l.length) W (by rw [firsts_len]; exact hn) (rd_of_set (by rw [firsts_len]; exact h))
      rw [firsts_len] at this
      exact this))
    obtain ⟨n3, n10⟩ := h10
    clear hgd hgt hR hK hn
    generalize hN : l.length = n at *
    have HN := Lib.hid hN
    clear hN
    go_enter Try.func71, Try.ntmps71
    go_wp2_with fail
    refine K.out.mono ?_; rintro e w1 ⟨rfl, hb1⟩
    have HS := Lib.hid (set_new w1 42 n (firsts f n))
    have hw1 := hb1.size
    have hB0 := Below.alloc hb1 hw1 (.cells (madeCells #[.int .i64 0, .int .i64 0] (n * 2)) 42)
    go_wp2_with fail
    clear hmk
    go_loopg [17] n (fun g i wr => ∃ k : Nat, k ≤ n ∧ g = n - k ∧ i = .int .i64 k ∧ Below w.heap.size w wr ∧ Hid (Set wr w1.heap.size n k (firsts f n)))
    case atStart => exact ⟨0, Nat.zero_le _, rfl, rfl, hB0, HS⟩
    case round =>
      clear hB0 HS hb1
      obtain ⟨k, hk, hg, rfl, hB, hS⟩ := hrel
      rename World => wo
      have HGK := Lib.hid hg
      clear hg
      by_cases hlt : k < n
      · have hq := HC.out wo hB k hlt
        have hzB := hB.size
        have S0 := set_below hS.out (Below.alloc (Below.refl _ _) (Nat.le_refl _) (.cells #[.int .i64 (vx l k).1, .int .i64 (vx l k).2] 42))
        have B0 := Below.alloc hB hzB (.cells #[.int .i64 (vx l k).1, .int .i64 (vx l k).2] 42)
        have KF := Lib.hid (HF.out k hlt _ B0)
        have S0H := Lib.hid S0
        clear S0 hS
        go_wp2_with fail
        refine KF.out.mono ?_; rintro e w2 ⟨rfl, hb2⟩
        have B2 := B0.trans (hb2.mono B0.size)
        have S2 := set_below S0H.out hb2
        obtain ⟨g1, g2, g3⟩ := S2
        obtain ⟨⟨u1, d1⟩, ⟨u2, d2⟩, d3, d4⟩ := g2 k hlt
        have S3 := Lib.hid (set_store (show Set w2 w1.heap.size n k (firsts f n) from ⟨g1, g2, g3⟩) hlt (firsts_get f n k hlt))
        have B3 := Lib.hid ((B2.setCell (p := ⟨w1.heap.size, k * 2, none⟩) hw1 (.int .i64 (f k).1)).setCell (p := ⟨w1.heap.size, k * 2 + 1, none⟩) hw1 (.int .i64 (f k).2))
        clear g2 g3 S0H KF B0 B2 hq hb2
        go_wp2_with fail
        go_roundg (n - (k + 1))
        case measure => have := HGK.out; omega
        case rel => exact ⟨k + 1, by omega, rfl, by go_num, B3.out, S3⟩
      · have hkn : n = k := by omega
        subst hkn
        have KB := Lib.hid (KA.out _ _ hS.out)
        have hzB := hB.size
        cases hab : allB f n
        · rw [hab] at KB
          have HAB := Lib.hid hab
          clear hab
          go_wp2_with fail
          refine KB.out.mono ?_; rintro e w2 ⟨rfl, hb2⟩
          have B2 := hB.trans (hb2.mono hzB)
          go_wp2_with fail
          go_ret2
          rw [HAB.out]
          exact retL_nil B2
        · rw [hab] at KB
          have HAB := Lib.hid hab
          clear hab
          go_wp2_with fail
          refine KB.out.mono ?_; rintro e w2 ⟨rfl, hb2⟩
          have B2 := hB.trans (hb2.mono hzB)
          have S2 := Lib.hid (set_below hS.out hb2)
          go_wp2_with fail
          go_ret2
          rw [HAB.out]
          exact retL_of_set (W := w) S2.out B2 (by omega) hw1
  · have hgf := goodB_false hgd
    rw [hgf] at K ⊢
    rw [Bool.false_and]
    clear hgf hgd hR hK
    go_enter Try.func71, Try.ntmps71
    go_wp2_with fail
    refine K.out.mono ?_; rintro e w1 ⟨rfl, hb1⟩
    go_wp2_with fail
    go_ret2
    exact retL_nil hb1
end Go.Proofs.Ytieimijkkjhegaa
