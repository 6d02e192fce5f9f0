/- contracts: WidthIn, the model -/
import Derived.Test.YtieimijkkjhegaaU3
import Derived.Test.YtieimijkkjhegaaM
namespace Go.Proofs.Ytieimijkkjhegaa
open Go.ChangeShapes Go.WideShapes Go.ChangeAt Go.RowKit Go.Joins
set_option linter.unusedVariables false
set_option linter.unusedSimpArgs false
set_option maxRecDepth 4000
theorem wiDirection_any (u v : Int) (w : World) :
    Calls Try.prog 117 #[.int .i64 u, .int .i64 v] w fun e w' => e = .returned (.bool (dirB u v)) ∧ Below w.heap.size w w' := by
  have K1 := Lib.hid (fun W => l1In_any u (-200) 200 W)
  have K2 := Lib.hid (fun W => l1In_any v (-200) 200 W)
  by_cases hu : (decide (-200 ≤ u) && decide (u ≤ 200)) = true
  · by_cases hv : (decide (-200 ≤ v) && decide (v ≤ 200)) = true
    · have KG := Lib.hid (fun W => pgCommon_any u v W (by simp at hu; omega) (by simp at hu; omega) (by simp at hv; omega) (by simp at hv; omega))
      have hd : Hid (dirB u v = decide (Nat.gcd u.natAbs v.natAbs = 1)) := Lib.hid (by unfold dirB; rw [hu, hv]; rfl)
      rw [hu] at K1
      rw [hv] at K2
      clear hu hv
      obtain ⟨g, hgd⟩ : ∃ g, g = Nat.gcd u.natAbs v.natAbs := ⟨_, rfl⟩
      have hq : Hid (decide (Nat.gcd u.natAbs v.natAbs = 1) = ((g : Int) == 1)) := Lib.hid (by
        have hc : ((g : Int) == 1) = decide (g = 1) := by by_cases h : g = 1 <;> simp [h] <;> omega
        rw [hc]; subst hgd; simp only [decide_eq_decide])
      rw [← hgd] at KG
      clear hgd
      go_enter Try.func117, Try.ntmps117
      go_wp2_with fail
      refine (K1.out _).mono ?_; rintro e _ ⟨rfl, rfl⟩
      go_wp2_with fail
      refine (K2.out _).mono ?_; rintro e _ ⟨rfl, rfl⟩
      go_wp2_with fail
      refine (KG.out _).mono ?_; rintro e w1 ⟨rfl, hb1⟩
      go_wp2_with fail
      go_ret
      exact ⟨ret_bool (by rw [hd.out, hq.out]), hb1⟩
    · have hv' : (decide (-200 ≤ v) && decide (v ≤ 200)) = false := by simpa using hv
      have hd : Hid (dirB u v = false) := Lib.hid (by unfold dirB; rw [hv']; simp)
      rw [hu] at K1
      rw [hv'] at K2
      clear hu hv hv'
      go_enter Try.func117, Try.ntmps117
      go_wp2_with fail
      refine (K1.out _).mono ?_; rintro e _ ⟨rfl, rfl⟩
      go_wp2_with fail
      refine (K2.out _).mono ?_; rintro e _ ⟨rfl, rfl⟩
      go_wp2_with fail
      go_ret
      exact ⟨ret_bool (by rw [hd.out]), Below.refl _ _⟩
  · have hu' : (decide (-200 ≤ u) && decide (u ≤ 200)) = false := by simpa using hu
    have hd : Hid (dirB u v = false) := Lib.hid (by unfold dirB; rw [hu']; simp)
    rw [hu'] at K1
    clear hu hu'
    go_enter Try.func117, Try.ntmps117
    go_wp2_with fail
    refine (K1.out _).mono ?_; rintro e _ ⟨rfl, rfl⟩
    go_wp2_with fail
    go_ret
    exact ⟨ret_bool (by rw [hd.out]), Below.refl _ _⟩
theorem wiAsked_any (A : Option Addr) (c : Nat) (l : List (Int × Int)) (u v : Int) (w : World) (hn : l.length ≤ 1048576) (hcap : l.length ≤ c) (hc2 : c ≤ 9223372036854775807) (hR : Rd w w.heap.size A l) :
    Calls Try.prog 82 #[.slice A l.length c, .int .i64 u, .int .i64 v] w fun e w' => e = .returned (.bool (okW l u v)) ∧ Below w.heap.size w w' := by
  have K := Lib.hid (pgGood_any A c l w hn hcap hc2 hR)
  have KD := Lib.hid (fun W => wiDirection_any u v W)
  have hd : Hid (okW l u v = (goodB l && dirB u v)) := Lib.hid rfl
  generalize okW l u v = ok at *
  generalize dirB u v = d at *
  generalize goodB l = g at *
  clear hR
  cases g
  · go_enter Try.func82, Try.ntmps82
    go_wp2_with fail
    refine K.out.mono ?_; rintro e w1 ⟨rfl, hb1⟩
    go_wp2_with fail
    go_ret
    exact ⟨ret_bool (by rw [hd.out]; rfl), hb1⟩
  · go_enter Try.func82, Try.ntmps82
    go_wp2_with fail
    refine K.out.mono ?_; rintro e w1 ⟨rfl, hb1⟩
    go_wp2_with fail
    refine (KD.out _).mono ?_; rintro e w2 ⟨rfl, hb2⟩
    go_wp2_with fail
    go_ret
    exact ⟨ret_bool (by rw [hd.out]; rfl), hb1.trans (hb2.mono hb1.size)⟩
theorem wiWidth_any (A : Option Addr) (c : Nat) (l : List (Int × Int)) (u v : Int) (w : World) (h1 : -200 ≤ u) (h2 : u ≤ 200) (h3 : -200 ≤ v) (h4 : v ≤ 200) (hg : Good l) (hR : Rd w w.heap.size A l) :
    Calls Try.prog 83 #[.slice A l.length c, .int .i64 u, .int .i64 v] w fun e w' => e = .returned (.int .i64 (hiW l u v l.length - loW l u v l.length)) ∧ Below w.heap.size w w' := by
  have K := Lib.hid (wiRange_any A c l u v w h1 h2 h3 h4 hg hR)
  have hb := lohi_bd h1 h2 h3 h4 hg.pegs (by have := hg.few; omega) l.length (Nat.le_refl _)
  clear hR
  generalize hiW l u v l.length = hi at *
  generalize loW l u v l.length = lo at *
  obtain ⟨⟨q1, q2⟩, ⟨q3, q4⟩, q5⟩ := hb
  have i1 : IntKind.i64.wrap (hi - lo) = hi - lo := IntWalk.i64_in _ (by omega)
  clear q1 q2 q3 q4 q5 h1 h2 h3 h4
  go_enter Try.func83, Try.ntmps83
  go_wp2_with fail
  refine K.out.mono ?_; rintro e w1 ⟨rfl, hb1⟩
  go_wp2_with fail
  go_ret
  exact ⟨rfl, hb1⟩
theorem specWidthIn_any (A : Option Addr) (c : Nat) (l : List (Int × Int)) (u v : Int) (w : World) (hn : l.length ≤ 1048576) (hcap : l.length ≤ c) (hc2 : c ≤ 9223372036854775807) (hR : Rd w w.heap.size A l) :
    Calls Try.prog 34 #[.slice A l.length c, .int .i64 u, .int .i64 v] w fun e w' => e = .returned (.tuple #[.int .i64 (wdS l u v), .bool (okW l u v)]) ∧ Below w.heap.size w w' := by
  have K := Lib.hid (wiAsked_any A c l u v w hn hcap hc2 hR)
  by_cases hk : okW l u v = true
  · have hk2 : goodB l = true ∧ dirB u v = true := by unfold okW at hk; simpa using hk
    obtain ⟨a1, a2, a3, a4, _⟩ := dirB_t hk2.2
    have hg : Good l := by unfold goodB at hk2; simpa using hk2.1
    have K2 := Lib.hid (fun W (hb : Below w.heap.size w W) => wiWidth_any A c l u v W a1 a2 a3 a4 hg (rd_more (rd_below hR hb (Nat.le_refl _)) hb.size))
    rw [wdS_t hk, hk]
    rw [hk] at K
    generalize hiW l u v l.length - loW l u v l.length = x at *
    clear hk hk2 hg hR a1 a2 a3 a4
    go_enter Try.func34, Try.ntmps34
    go_wp2_with fail
    refine K.out.mono ?_; rintro e w1 ⟨rfl, hb1⟩
    go_wp2_with fail
    refine (K2.out _ hb1).mono ?_; rintro e w2 ⟨rfl, hb2⟩
    go_wp2_with fail
    go_ret2
    exact ⟨rfl, hb1.trans (hb2.mono hb1.size)⟩
  · have hkf : okW l u v = false := by simpa using hk
    rw [wdS_f hkf, hkf]
    rw [hkf] at K
    clear hk hkf hR
    go_enter Try.func34, Try.ntmps34
    go_wp2_with fail
    refine K.out.mono ?_; rintro e w1 ⟨rfl, hb1⟩
    go_wp2_with fail
    go_ret2
    exact ⟨rfl, hb1⟩
end Go.Proofs.Ytieimijkkjhegaa
