/- contracts: the program's sums around a polygon -/
import Derived.Test.YthpbnfmfedggjaaS
import Derived.Test.YthpbnfmfedggjaaM
import Derived.Test.YthpbnfmfedggjaaU
namespace Go.Proofs.Ythpbnfmfedggjaa
open Go.ChangeShapes Go.WideShapes Go.ChangeAt Go.RowKit Go.Joins
set_option linter.unusedVariables false
set_option linter.unusedSimpArgs false
set_option maxRecDepth 4000
theorem steps_any (p q : Int × Int) (b1 b2 : Int) (w : World) (hp : isPg p = true) (hq : isPg q = true) :
    Calls Try.prog 58 #[.agg #[.int .i64 p.1, .int .i64 p.2, .int .i64 b1, .int .i64 b2, .int .i64 q.1, .int .i64 q.2]] w fun e w' => e = .returned (.int .i64 (stepN p.1 p.2 q.1 q.2)) ∧ Below w.heap.size w w' := by
  have K := Lib.hid (fun W => stepsTo_any p.1 p.2 q.1 q.2 W (sz_of hp) (sz_of hq))
  clear hp hq
  go_enter Try.func58, Try.ntmps58
  go_wp2_with fail
  refine (K.out _).mono ?_; rintro e w1 ⟨rfl, hb1⟩
  obtain ⟨hc1, hf1⟩ := bcell hb1
  have z1_0 : w.heap.size < w1.heap.size := by (have := hb1.size; simp at this; omega)
  have B1 : Below w.heap.size w w1 := (Below.alloc (Below.refl _ _) (by simp <;> omega) _).trans (hb1.mono (by simp <;> omega))
  go_wp2_with fail
  go_ret
  exact ⟨rfl, B1⟩
set_option maxHeartbeats 2000000 in
theorem sumAroundW_any (A : Option Addr) (c : Nat) (l : List (Int × Int)) (w : World) (fid : Nat) (f : Nat → Int) (h1 : 1 ≤ l.length) (hn : l.length ≤ 60) (hR : Rd w w.heap.size A l)
    (hcf : ∀ args W, (callFunc fid args).run Try.prog W = .ok (Next.enter fid args) W) (hf : ∀ i, i < l.length → -100000 ≤ f i ∧ f i ≤ 100000)
    (hK : ∀ i, i < l.length → ∀ W, Calls Try.prog fid #[.agg #[.int .i64 (vx l i).1, .int .i64 (vx l i).2, .int .i64 (vx l (i + l.length - 1)).1, .int .i64 (vx l (i + l.length - 1)).2, .int .i64 (vx l (i + 1)).1, .int .i64 (vx l (i + 1)).2]] W
      fun e w' => e = .returned (.int .i64 (f i)) ∧ Below W.heap.size W w') :
    Calls Try.prog 54 #[.slice A l.length c, .func (.func fid) #[] #[]] w fun e w' => e = .returned (.int .i64 (sumTo f l.length)) ∧ Below w.heap.size w w' := by
  have KC := Lib.hid (fun W (hb : Below w.heap.size w W) => cornersAroundW_any A c l W (by omega) (by omega) (rd_more (rd_below hR hb (Nat.le_refl _)) hb.size))
  have HB : Hid (∀ k, k ≤ l.length → -(100000 * (k : Int)) ≤ sumTo f k ∧ sumTo f k ≤ 100000 * (k : Int)) := Lib.hid (fun k hk => sumTo_bd k fun i hi => hf i (by omega))
  have HK := Lib.hid hK
  have HS : Hid (∀ k, sumTo f (k + 1) = sumTo f k + f k) := Lib.hid (fun k => rfl)
  have H0 : Hid (sumTo f 0 = 0) := Lib.hid rfl
  clear hR hf hK
  generalize hN : l.length = n at *
  have HN := Lib.hid hN
  clear hN
  go_enter Try.func54, Try.ntmps54
  go_wp2_with fail
  refine (KC.out w (Below.refl _ _)).mono ?_; rintro e w2 ⟨rfl, hb2, hSC⟩
  obtain ⟨g, hg⟩ : ∃ g, g = w.heap.size := ⟨_, rfl⟩
  rw [← hg] at hSC ⊢
  have hgs : g < w2.heap.size := hSC.1
  have CE : Hid (∀ W, Below w2.heap.size w2 W → ∀ i, i < n → (W.cell? ⟨g, i * 6, none⟩ = some (.int .i64 (vx l i).1) ∧ W.cell? ⟨g, i * 6 + 1, none⟩ = some (.int .i64 (vx l i).2) ∧ W.cell? ⟨g, i * 6 + 2, none⟩ = some (.int .i64 (vx l (i + n - 1)).1) ∧ W.cell? ⟨g, i * 6 + 3, none⟩ = some (.int .i64 (vx l (i + n - 1)).2) ∧ W.cell? ⟨g, i * 6 + 4, none⟩ = some (.int .i64 (vx l (i + 1)).1) ∧ W.cell? ⟨g, i * 6 + 5, none⟩ = some (.int .i64 (vx l (i + 1)).2))) := Lib.hid (fun W hW i hi => by
    obtain ⟨c0, c1, c2, c3, c4, c5⟩ := hSC.2.2 i hi
    have hc := (bcell hW).1
    exact ⟨(hc _ _ hgs).trans c0, (hc _ _ hgs).trans c1, (hc _ _ hgs).trans c2, (hc _ _ hgs).trans c3, (hc _ _ hgs).trans c4, (hc _ _ hgs).trans c5⟩)
  have TR : Hid (∀ W, Below w2.heap.size w2 W → Below w.heap.size w W) := Lib.hid (fun W hW => hb2.trans (hW.mono hb2.size))
  clear KC hb2 hSC hg
  go_wp2_with fail
  go_loopg [5, 11] n (fun gg s i wr => ∃ k : Nat, k ≤ n ∧ gg = n - k ∧ i = .int .i64 k ∧ s = .int .i64 (sumTo f k) ∧ Below w2.heap.size w2 wr)
  case atStart => exact ⟨0, Nat.zero_le _, rfl, rfl, by rw [H0.out], Below.refl _ _⟩
  case round =>
    obtain ⟨k, hk, hgg, rfl, rfl, hB⟩ := hrel
    rename World => wo
    have HGK := Lib.hid hgg
    clear hgg
    by_cases hlt : k < n
    · obtain ⟨x0, x1, x2, x3, x4, x5⟩ := CE.out wo hB k hlt
      have hzB := hB.size
      have hgo : g < wo.heap.size := by omega
      have T := Lib.hid (fun W => HK.out k hlt W)
      have e0 := HS.out k
      obtain ⟨b1, b2⟩ := HB.out (k + 1) (by omega)
      rw [e0] at b1 b2
      have E0 := Lib.hid e0
      clear e0
      generalize f k = t at *
      generalize hs : sumTo f k = s at *
      have HSS := Lib.hid hs
      clear hs
      have hsm : -9000000 ≤ s + t ∧ s + t ≤ 9000000 := by omega
      clear b1 b2
      obtain ⟨b1, b2⟩ := hsm
      go_wp2_with fail
      refine (T.out _).mono ?_; rintro e w3 ⟨rfl, hb3⟩
      have B3 := (Below.alloc hB hzB (.cells #[.int .i64 (vx l k).1, .int .i64 (vx l k).2, .int .i64 (vx l (k + n - 1)).1, .int .i64 (vx l (k + n - 1)).2, .int .i64 (vx l (k + 1)).1, .int .i64 (vx l (k + 1)).2] 60)).trans (hb3.mono (by simp; omega))
      clear x0 x1 x2 x3 x4 x5 hb3 T
      go_wp2_with fail
      go_roundg (n - (k + 1))
      case measure => have := HGK.out; omega
      case rel => exact ⟨k + 1, by omega, rfl, by go_num, by rw [E0.out], B3⟩
    · have hkn : n = k := by omega
      subst hkn
      have BB := Lib.hid (TR.out _ hB)
      go_wp2_with fail
      go_ret
      exact ⟨rfl, BB.out⟩
theorem sumAround_any (A : Option Addr) (c : Nat) (l : List (Int × Int)) (w : World) (fid : Nat) (f : Nat → Int) (h1 : 1 ≤ l.length) (hn : l.length ≤ 10) (hR : Rd w w.heap.size A l)
    (hcf : ∀ args W, (callFunc fid args).run Try.prog W = .ok (Next.enter fid args) W) (hf : ∀ i, i < l.length → -100000 ≤ f i ∧ f i ≤ 100000)
    (hK : ∀ i, i < l.length → ∀ W, Calls Try.prog fid #[.agg #[.int .i64 (vx l i).1, .int .i64 (vx l i).2, .int .i64 (vx l (i + l.length - 1)).1, .int .i64 (vx l (i + l.length - 1)).2, .int .i64 (vx l (i + 1)).1, .int .i64 (vx l (i + 1)).2]] W
      fun e w' => e = .returned (.int .i64 (f i)) ∧ Below W.heap.size W w') :
    Calls Try.prog 54 #[.slice A l.length c, .func (.func fid) #[] #[]] w fun e w' => e = .returned (.int .i64 (sumTo f l.length)) ∧ Below w.heap.size w w' := sumAroundW_any A c l w fid f h1 (by omega) hR hcf hf hK
end Go.Proofs.Ythpbnfmfedggjaa
