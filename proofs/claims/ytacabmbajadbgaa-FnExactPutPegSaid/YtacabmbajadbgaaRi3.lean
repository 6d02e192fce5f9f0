/- rings: made of numbers, the program -/
import Derived.Test.YtacabmbajadbgaaRi0
import Derived.Test.YtacabmbajadbgaaMa
import Derived.Lib.SmallJoins
namespace Go.Proofs.Ytacabmbajadbgaa
open Go.ChangeShapes Go.WideShapes Go.ChangeAt Go.RowKit Go.Joins
set_option linter.unusedVariables false
set_option linter.unusedSimpArgs false
set_option maxRecDepth 4000
theorem rg_sets {w : World} {g : Nat} {F : Nat → Int} {c : Int} (r : Rg w g F c) (G : Nat → Int) (d : Int) : Rg ((((((((((w.setCell ⟨g, 0, none⟩ (.int .i64 (G 0))).setCell ⟨g, 1, none⟩ (.int .i64 (G 1))).setCell ⟨g, 2, none⟩ (.int .i64 (G 2))).setCell ⟨g, 3, none⟩ (.int .i64 (G 3))).setCell ⟨g, 4, none⟩ (.int .i64 (G 4))).setCell ⟨g, 5, none⟩ (.int .i64 (G 5))).setCell ⟨g, 6, none⟩ (.int .i64 (G 6))).setCell ⟨g, 7, none⟩ (.int .i64 (G 7))).setCell ⟨g, 8, none⟩ (.int .i64 (G 8))).setCell ⟨g, 9, none⟩ (.int .i64 d)) g G d := by
  have h0 := block_setCell (i := 0) r.h (.int .i64 (G 0))
  have h1 := block_setCell (i := 1) h0 (.int .i64 (G 1))
  have h2 := block_setCell (i := 2) h1 (.int .i64 (G 2))
  have h3 := block_setCell (i := 3) h2 (.int .i64 (G 3))
  have h4 := block_setCell (i := 4) h3 (.int .i64 (G 4))
  have h5 := block_setCell (i := 5) h4 (.int .i64 (G 5))
  have h6 := block_setCell (i := 6) h5 (.int .i64 (G 6))
  have h7 := block_setCell (i := 7) h6 (.int .i64 (G 7))
  have h8 := block_setCell (i := 8) h7 (.int .i64 (G 8))
  have h9 := block_setCell (i := 9) h8 (.int .i64 d)
  exact ⟨by simpa using h9⟩
theorem sets_below {w0 w : World} {lo g : Nat} (h : Below lo w0 w) (hg : lo ≤ g) (G : Nat → Int) (d : Int) : Below lo w0 ((((((((((w.setCell ⟨g, 0, none⟩ (.int .i64 (G 0))).setCell ⟨g, 1, none⟩ (.int .i64 (G 1))).setCell ⟨g, 2, none⟩ (.int .i64 (G 2))).setCell ⟨g, 3, none⟩ (.int .i64 (G 3))).setCell ⟨g, 4, none⟩ (.int .i64 (G 4))).setCell ⟨g, 5, none⟩ (.int .i64 (G 5))).setCell ⟨g, 6, none⟩ (.int .i64 (G 6))).setCell ⟨g, 7, none⟩ (.int .i64 (G 7))).setCell ⟨g, 8, none⟩ (.int .i64 (G 8))).setCell ⟨g, 9, none⟩ (.int .i64 d)) := by
  exact (Below.setCell (p := ⟨g, 9, none⟩) (Below.setCell (p := ⟨g, 8, none⟩) (Below.setCell (p := ⟨g, 7, none⟩) (Below.setCell (p := ⟨g, 6, none⟩) (Below.setCell (p := ⟨g, 5, none⟩) (Below.setCell (p := ⟨g, 4, none⟩) (Below.setCell (p := ⟨g, 3, none⟩) (Below.setCell (p := ⟨g, 2, none⟩) (Below.setCell (p := ⟨g, 1, none⟩) (Below.setCell (p := ⟨g, 0, none⟩) h hg (.int .i64 (G 0))) hg (.int .i64 (G 1))) hg (.int .i64 (G 2))) hg (.int .i64 (G 3))) hg (.int .i64 (G 4))) hg (.int .i64 (G 5))) hg (.int .i64 (G 6))) hg (.int .i64 (G 7))) hg (.int .i64 (G 8))) hg (.int .i64 d))
/-- the first k numbers, and 0 behind them -/
def cF (f : Nat → Int) (k i : Nat) : Int := if i < k then f i else 0
theorem cF_succ (f : Nat → Int) (k : Nat) : upd (cF f k) k (f k) = cF f (k + 1) := by
  funext i
  unfold upd cF
  by_cases h : i = k
  · subst h; simp
  · by_cases h2 : i < k
    · rw [if_neg h, if_pos h2, if_pos (by omega)]
    · rw [if_neg h, if_neg h2, if_neg (by omega)]
def numB (f : Nat → Int) (n : Nat) : Bool := inQ 3 9 n && allIn (-6) 2 f n
theorem rg_other {w : World} {g k : Nat} {F : Nat → Int} {c : Int} (r : Rg w k F c) (hk : k ≠ g) (G : Nat → Int) (d : Int) : Rg ((((((((((w.setCell ⟨g, 0, none⟩ (.int .i64 (G 0))).setCell ⟨g, 1, none⟩ (.int .i64 (G 1))).setCell ⟨g, 2, none⟩ (.int .i64 (G 2))).setCell ⟨g, 3, none⟩ (.int .i64 (G 3))).setCell ⟨g, 4, none⟩ (.int .i64 (G 4))).setCell ⟨g, 5, none⟩ (.int .i64 (G 5))).setCell ⟨g, 6, none⟩ (.int .i64 (G 6))).setCell ⟨g, 7, none⟩ (.int .i64 (G 7))).setCell ⟨g, 8, none⟩ (.int .i64 (G 8))).setCell ⟨g, 9, none⟩ (.int .i64 d)) k F c := by
  have h := fun (W : World) (i : Nat) (v : Value) => Below.heap_setCell W ⟨g, i, none⟩ v k hk
  exact ⟨by rw [h, h, h, h, h, h, h, h, h, h]; exact r.h⟩
theorem rg_frozen {w : World} {g : Nat} {F : Nat → Int} {c : Int} (r : Rg w g F c) (o : Nat) : w.frozen? ⟨g, o, none⟩ = false := by
  simp [World.frozen?, r.h]
theorem at_sets {w w0 : World} {lo g : Nat} {F : Nat → Int} {c : Int} (G : Nat → Int) (d : Int) {P : World → Prop} (r : Rg w g F c) (hb : Below lo w0 w) (hg : lo ≤ g) (h : ∀ W, Rg W g G d → Below lo w0 W → P W) : P ((((((((((w.setCell ⟨g, 0, none⟩ (.int .i64 (G 0))).setCell ⟨g, 1, none⟩ (.int .i64 (G 1))).setCell ⟨g, 2, none⟩ (.int .i64 (G 2))).setCell ⟨g, 3, none⟩ (.int .i64 (G 3))).setCell ⟨g, 4, none⟩ (.int .i64 (G 4))).setCell ⟨g, 5, none⟩ (.int .i64 (G 5))).setCell ⟨g, 6, none⟩ (.int .i64 (G 6))).setCell ⟨g, 7, none⟩ (.int .i64 (G 7))).setCell ⟨g, 8, none⟩ (.int .i64 (G 8))).setCell ⟨g, 9, none⟩ (.int .i64 d)) := h _ (rg_sets r G d) (sets_below hb hg G d)
theorem at_sets2 {w w0 : World} {lo g k : Nat} {F F2 : Nat → Int} {c c2 : Int} (G : Nat → Int) (d : Int) {P : World → Prop} (r : Rg w g F c) (r2 : Rg w k F2 c2) (hk : k ≠ g) (hb : Below lo w0 w) (hg : lo ≤ g) (h : ∀ W, Rg W g G d → Rg W k F2 c2 → Below lo w0 W → P W) : P ((((((((((w.setCell ⟨g, 0, none⟩ (.int .i64 (G 0))).setCell ⟨g, 1, none⟩ (.int .i64 (G 1))).setCell ⟨g, 2, none⟩ (.int .i64 (G 2))).setCell ⟨g, 3, none⟩ (.int .i64 (G 3))).setCell ⟨g, 4, none⟩ (.int .i64 (G 4))).setCell ⟨g, 5, none⟩ (.int .i64 (G 5))).setCell ⟨g, 6, none⟩ (.int .i64 (G 6))).setCell ⟨g, 7, none⟩ (.int .i64 (G 7))).setCell ⟨g, 8, none⟩ (.int .i64 (G 8))).setCell ⟨g, 9, none⟩ (.int .i64 d)) := h _ (rg_sets r G d) (rg_other r2 hk G d) (sets_below hb hg G d)
theorem cF_zero (f : Nat → Int) : cF f 0 = fun _ => 0 := by funext i; unfold cF; simp
theorem rg_zero (w : World) : Rg (w.alloc (.cells #[.int .i64 0, .int .i64 0, .int .i64 0, .int .i64 0, .int .i64 0, .int .i64 0, .int .i64 0, .int .i64 0, .int .i64 0, .int .i64 0] 97)) w.heap.size (fun _ => 0) 0 := ⟨heap_alloc_new w _⟩
set_option maxHeartbeats 4000000 in
theorem ringOf_any (A : Option Addr) (c n : Nat) (f : Nat → Int) (w : World) (hn : n ≤ 1048576) (hR : RdI w w.heap.size A n f) :
    Calls Try.prog 85 #[.slice A n c] w fun e w' => e = .returned (.tuple #[if numB f n = true then rv (cF f n) n else rv (fun _ => 0) 0, .bool (numB f n)]) ∧ Below w.heap.size w w' := by
  have HR := Lib.hid (fun W (hb : Below w.heap.size w W) => rdi_below hR hb (Nat.le_refl _))
  have hZ1 := rg_zero w
  have hZ2 := rg_zero (w.alloc (.cells #[.int .i64 0, .int .i64 0, .int .i64 0, .int .i64 0, .int .i64 0, .int .i64 0, .int .i64 0, .int .i64 0, .int .i64 0, .int .i64 0] 97))
  have hZ3 := rg_below hZ1 (Below.alloc (Below.refl _ _) (Nat.le_refl _) (.cells #[.int .i64 0, .int .i64 0, .int .i64 0, .int .i64 0, .int .i64 0, .int .i64 0, .int .i64 0, .int .i64 0, .int .i64 0, .int .i64 0] 97))
  have hZB := Below.alloc (Below.alloc (Below.refl w.heap.size w) (Nat.le_refl _) (.cells #[.int .i64 0, .int .i64 0, .int .i64 0, .int .i64 0, .int .i64 0, .int .i64 0, .int .i64 0, .int .i64 0, .int .i64 0, .int .i64 0] 97)) (by simp) (.cells #[.int .i64 0, .int .i64 0, .int .i64 0, .int .i64 0, .int .i64 0, .int .i64 0, .int .i64 0, .int .i64 0, .int .i64 0, .int .i64 0] 97)
  rw [show (w.alloc (.cells #[.int .i64 0, .int .i64 0, .int .i64 0, .int .i64 0, .int .i64 0, .int .i64 0, .int .i64 0, .int .i64 0, .int .i64 0, .int .i64 0] 97)).heap.size = w.heap.size + 1 by simp] at hZ2
  have HZ2 := Lib.hid hZ2
  have HZ3 := Lib.hid hZ3
  have HZB := Lib.hid hZB
  clear hZ1 hZ2 hZ3 hZB
  by_cases hq : 3 ≤ n ∧ n ≤ 9
  · have hin : inQ 3 9 n = true := by unfold inQ; simp; omega
    have e0 : numB f n = allIn (-6) 2 f n := by unfold numB; rw [hin]; rfl
    have HAF : Hid (∀ k, k < n → inQ (-6) 2 (f k) = false → numB f n = false) := Lib.hid (fun k hk h => by rw [e0]; exact allIn_false hk h)
    have HAT : Hid (allIn (-6) 2 f n = true → numB f n = true) := Lib.hid (fun h => by rw [e0]; exact h)
    have KW : Hid (∀ k W, k < 9 → Calls Try.prog 106 #[rv (cF f k) (k : Int), .int .i64 (f k)] W fun e w' => e = .returned (rv (cF f (k + 1)) ((k + 1 : Nat) : Int)) ∧ Below W.heap.size W w') := Lib.hid (fun k W hk => by rw [← cF_succ]; exact with_any (cF f k) k (f k) W hk)
    have HS : Hid (∀ k, allIn (-6) 2 f k = true → inQ (-6) 2 (f k) = true → allIn (-6) 2 f (k + 1) = true) := Lib.hid (fun k h1 h2 => by show (_ && _) = true; rw [h1, h2]; rfl)
    generalize numB f n = b at *
    unfold rv at KW ⊢
    clear hR hin e0
    obtain ⟨q1, q2⟩ := hq
    go_enter Try.func85, Try.ntmps85
    go_wp2_with fail
    have hZ2 := HZ2.out
    have hZ3 := HZ3.out
    have hZB := HZB.out
    rw [← cF_zero f] at hZ2
    obtain ⟨g, hg⟩ : ∃ g, g = w.heap.size := ⟨_, rfl⟩
    rw [← hg] at hZ2 hZ3 ⊢
    have hgl : w.heap.size ≤ g := by omega
    clear HZ2 HZ3 HZB hg
    go_loopg [18] n (fun gg x wr => ∃ k : Nat, k ≤ n ∧ gg = n - k ∧ x = .int .i64 k ∧ Below w.heap.size w wr ∧ Hid (Rg wr (g + 1) (cF f k) k) ∧ Hid (Rg wr g (fun _ => 0) 0) ∧ Hid (allIn (-6) 2 f k = true))
    case atStart => exact ⟨0, Nat.zero_le _, rfl, rfl, hZB, Lib.hid hZ2, Lib.hid hZ3, Lib.hid rfl⟩
    case round =>
      clear hZ2 hZ3 hZB
      obtain ⟨k, hk, hgg, rfl, hB, r4, r2, hA⟩ := hrel
      rename World => wo
      have HGK := Lib.hid hgg
      clear hgg
      have hgn : g ≠ g + 1 := by omega
      have hgl2 : w.heap.size ≤ g + 1 := by omega
      by_cases hlt : k < n
      · obtain ⟨ba, off, rfl, hb, hc⟩ := HR.out wo hB (by omega)
        have h0 := hc k hlt
        by_cases hin : inQ (-6) 2 (f k) = true
        · have A1 := Lib.hid (HS.out k hA.out hin)
          have hin' := hin
          unfold inQ at hin'
          simp only [Bool.and_eq_true, decide_eq_true_eq] at hin'
          have KW1 := Lib.hid (fun W => KW.out k W (by omega))
          have z0 := rg_cell r4.out 0 (by omega); have z1 := rg_cell r4.out 1 (by omega); have z2 := rg_cell r4.out 2 (by omega); have z3 := rg_cell r4.out 3 (by omega); have z4 := rg_cell r4.out 4 (by omega); have z5 := rg_cell r4.out 5 (by omega); have z6 := rg_cell r4.out 6 (by omega); have z7 := rg_cell r4.out 7 (by omega); have z8 := rg_cell r4.out 8 (by omega); have z9 := rg_count r4.out; have zg := rg_z r4.out
          clear hc hin HR KW
          go_wp2_with fail
          refine (KW1.out wo).mono ?_; rintro e w4 ⟨rfl, hb4⟩
          have B4 := hB.trans (hb4.mono hB.size)
          have r44 := Lib.hid (rg_below r4.out hb4)
          have r24 := Lib.hid (rg_below r2.out hb4)
          clear z0 z1 z2 z3 z4 z5 z6 z7 z8 z9 zg
          have y0 := rg_cell r44.out 0 (by omega); have y1 := rg_cell r44.out 1 (by omega); have y2 := rg_cell r44.out 2 (by omega); have y3 := rg_cell r44.out 3 (by omega); have y4 := rg_cell r44.out 4 (by omega); have y5 := rg_cell r44.out 5 (by omega); have y6 := rg_cell r44.out 6 (by omega); have y7 := rg_cell r44.out 7 (by omega); have y8 := rg_cell r44.out 8 (by omega); have y9 := rg_count r44.out; have yg := rg_z r44.out; have yf := fun o => rg_frozen r44.out o
          clear hB hb4 r4 r2 KW1 h0
          go_wp2_with fail
          go_roundg (n - (k + 1))
          case measure => have := HGK.out; omega
          case rel => exact ⟨k + 1, by omega, rfl, by go_num, sets_below B4 hgl2 _ _, Lib.hid (rg_sets r44.out _ _), Lib.hid (rg_other r24.out hgn _ _), A1⟩
        · have hb0 := HAF.out k hlt (by simpa using hin)
          subst hb0
          have hin2 : f k < -6 ∨ 2 < f k := by
            unfold inQ at hin
            simp only [Bool.and_eq_true, decide_eq_true_eq] at hin
            omega
          have y0 := rg_cell r2.out 0 (by omega); have y1 := rg_cell r2.out 1 (by omega); have y2 := rg_cell r2.out 2 (by omega); have y3 := rg_cell r2.out 3 (by omega); have y4 := rg_cell r2.out 4 (by omega); have y5 := rg_cell r2.out 5 (by omega); have y6 := rg_cell r2.out 6 (by omega); have y7 := rg_cell r2.out 7 (by omega); have y8 := rg_cell r2.out 8 (by omega); have y9 := rg_count r2.out; have yg := rg_z r2.out; have yf := fun o => rg_frozen r2.out o
          try simp only [] at y0 y1 y2 y3 y4 y5 y6 y7 y8 y9
          clear hc hin HR KW HAF HAT HS
          by_cases hlo : f k < -6
          · clear hin2
            go_wp2_with fail
            refine at_sets (P := fun W => bodyPost Try.prog _ _ Exit.ret _ W) (fun _ => 0) 0 r2.out hB hgl (fun W hW hBW => ?_)
            have x0 := rg_cell hW 0 (by omega); have x1 := rg_cell hW 1 (by omega); have x2 := rg_cell hW 2 (by omega); have x3 := rg_cell hW 3 (by omega); have x4 := rg_cell hW 4 (by omega); have x5 := rg_cell hW 5 (by omega); have x6 := rg_cell hW 6 (by omega); have x7 := rg_cell hW 7 (by omega); have x8 := rg_cell hW 8 (by omega); have x9 := rg_count hW
            try simp only [] at x0 x1 x2 x3 x4 x5 x6 x7 x8 x9
            refine bodyPost_ret (v := .tuple #[.agg #[.int .i64 0, .int .i64 0, .int .i64 0, .int .i64 0, .int .i64 0, .int .i64 0, .int .i64 0, .int .i64 0, .int .i64 0, .int .i64 0], .bool false]) (by simp [results, Try.results85, go_sem, x0, x1, x2, x3, x4, x5, x6, x7, x8, x9]) rfl ⟨by simp, hBW⟩
          · have hhi : 2 < f k := by omega
            clear hin2
            go_wp2_with fail
            refine at_sets (P := fun W => bodyPost Try.prog _ _ Exit.ret _ W) (fun _ => 0) 0 r2.out hB hgl (fun W hW hBW => ?_)
            have x0 := rg_cell hW 0 (by omega); have x1 := rg_cell hW 1 (by omega); have x2 := rg_cell hW 2 (by omega); have x3 := rg_cell hW 3 (by omega); have x4 := rg_cell hW 4 (by omega); have x5 := rg_cell hW 5 (by omega); have x6 := rg_cell hW 6 (by omega); have x7 := rg_cell hW 7 (by omega); have x8 := rg_cell hW 8 (by omega); have x9 := rg_count hW
            try simp only [] at x0 x1 x2 x3 x4 x5 x6 x7 x8 x9
            refine bodyPost_ret (v := .tuple #[.agg #[.int .i64 0, .int .i64 0, .int .i64 0, .int .i64 0, .int .i64 0, .int .i64 0, .int .i64 0, .int .i64 0, .int .i64 0, .int .i64 0], .bool false]) (by simp [results, Try.results85, go_sem, x0, x1, x2, x3, x4, x5, x6, x7, x8, x9]) rfl ⟨by simp, hBW⟩
      · obtain rfl : k = n := by omega
        have hb1 := HAT.out hA.out
        subst hb1
        have z0 := rg_cell r4.out 0 (by omega); have z1 := rg_cell r4.out 1 (by omega); have z2 := rg_cell r4.out 2 (by omega); have z3 := rg_cell r4.out 3 (by omega); have z4 := rg_cell r4.out 4 (by omega); have z5 := rg_cell r4.out 5 (by omega); have z6 := rg_cell r4.out 6 (by omega); have z7 := rg_cell r4.out 7 (by omega); have z8 := rg_cell r4.out 8 (by omega); have z9 := rg_count r4.out; have zg := rg_z r4.out
        have y0 := rg_cell r2.out 0 (by omega); have y1 := rg_cell r2.out 1 (by omega); have y2 := rg_cell r2.out 2 (by omega); have y3 := rg_cell r2.out 3 (by omega); have y4 := rg_cell r2.out 4 (by omega); have y5 := rg_cell r2.out 5 (by omega); have y6 := rg_cell r2.out 6 (by omega); have y7 := rg_cell r2.out 7 (by omega); have y8 := rg_cell r2.out 8 (by omega); have y9 := rg_count r2.out; have yg := rg_z r2.out; have yf := fun o => rg_frozen r2.out o
        try simp only [] at y0 y1 y2 y3 y4 y5 y6 y7 y8 y9
        clear HR KW HAF HAT HS
        go_wp2_with fail
        refine at_sets (P := fun W => bodyPost Try.prog _ _ Exit.ret _ W) (cF f k) k r2.out hB hgl (fun W hW hBW => ?_)
        have x0 := rg_cell hW 0 (by omega); have x1 := rg_cell hW 1 (by omega); have x2 := rg_cell hW 2 (by omega); have x3 := rg_cell hW 3 (by omega); have x4 := rg_cell hW 4 (by omega); have x5 := rg_cell hW 5 (by omega); have x6 := rg_cell hW 6 (by omega); have x7 := rg_cell hW 7 (by omega); have x8 := rg_cell hW 8 (by omega); have x9 := rg_count hW
        try simp only [] at x0 x1 x2 x3 x4 x5 x6 x7 x8 x9
        refine bodyPost_ret (v := .tuple #[.agg #[.int .i64 (cF f k 0), .int .i64 (cF f k 1), .int .i64 (cF f k 2), .int .i64 (cF f k 3), .int .i64 (cF f k 4), .int .i64 (cF f k 5), .int .i64 (cF f k 6), .int .i64 (cF f k 7), .int .i64 (cF f k 8), .int .i64 k], .bool true]) (by simp [results, Try.results85, go_sem, x0, x1, x2, x3, x4, x5, x6, x7, x8, x9]) rfl ⟨by simp, hBW⟩
  · have hin : inQ 3 9 n = false := by unfold inQ; simp; omega
    have e0 : numB f n = false := by unfold numB; rw [hin]; rfl
    rw [e0]
    unfold rv
    clear hR HR HZ2 HZ3 e0 hin
    by_cases hlo : n < 3
    · have hlo' : (n : Int) < 3 := by omega
      clear hq
      go_enter Try.func85, Try.ntmps85
      go_wp2_with fail
      refine bodyPost_ret (v := .tuple #[.agg #[.int .i64 0, .int .i64 0, .int .i64 0, .int .i64 0, .int .i64 0, .int .i64 0, .int .i64 0, .int .i64 0, .int .i64 0, .int .i64 0], .bool false]) (by simp [results, Try.results85, go_sem]) rfl ⟨by simp, by repeat (first | with_reducible assumption | with_reducible exact Below.refl _ _ | with_reducible apply Below.drew | ((with_reducible refine Below.setCell ?_ ?_ _); rotate_left; (first | exact Nat.le_refl _ | omega | (simp <;> omega))) | ((with_reducible refine Below.alloc ?_ ?_ _); rotate_left; (first | omega | (simp <;> omega))))⟩
    · have hlo' : ¬ (n : Int) < 3 := by omega
      have hhi : 9 < (n : Int) := by omega
      clear hq
      go_enter Try.func85, Try.ntmps85
      go_wp2_with fail
      refine bodyPost_ret (v := .tuple #[.agg #[.int .i64 0, .int .i64 0, .int .i64 0, .int .i64 0, .int .i64 0, .int .i64 0, .int .i64 0, .int .i64 0, .int .i64 0, .int .i64 0], .bool false]) (by simp [results, Try.results85, go_sem]) rfl ⟨by simp, by repeat (first | with_reducible assumption | with_reducible exact Below.refl _ _ | with_reducible apply Below.drew | ((with_reducible refine Below.setCell ?_ ?_ _); rotate_left; (first | exact Nat.le_refl _ | omega | (simp <;> omega))) | ((with_reducible refine Below.alloc ?_ ?_ _); rotate_left; (first | omega | (simp <;> omega))))⟩
end Go.Proofs.Ytacabmbajadbgaa
