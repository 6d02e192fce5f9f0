/- contract: the program goes from corner to corner around the pegs -/
import Derived.Test.YthpbnfmfedggjaaBm0
import Derived.Test.YthpbnfmfedggjaaBl
import Derived.Maps.AppendAt
namespace Go.Proofs.Ythpbnfmfedggjaa
open Go.ChangeShapes Go.WideShapes Go.ChangeAt Go.RowKit Go.Joins
set_option linter.unusedVariables false
set_option linter.unusedSimpArgs false
set_option maxRecDepth 4000
set_option maxHeartbeats 16000000 in
theorem bandAround_any (A : Option Addr) (c n : Nat) (l : List (Int × Int)) (w : World) (hln : l.length = n) (h1n : 1 ≤ n) (hn : n ≤ 30) (hnd : l.Nodup) (hpg : ∀ x ∈ l, isPg x = true) (hR : Rd w w.heap.size A l) :
    Calls Try.prog 52 #[.slice A n c] w fun e w' => (∃ v, e = .returned v ∧ w'.ownsRow w.heap.size 38 2 v (MH.hull (srt l)).length (flat (MH.hull (srt l)))) ∧ Below w.heap.size w w' := by
  obtain ⟨i0, hi0, hz0, hz1, hz2⟩ := info_parts peg_info
  have HI := Lib.hid (And.intro hi0 (And.intro hz0 (And.intro hz1 hz2)))
  obtain ⟨h0, hAr⟩ := around_of hnd (by omega) (by omega)
  have KM := Lib.hid (minFunc_any A c n l w hln h1n hn hpg hR)
  have KN := Lib.hid (fun q1 q2 W (hq : (q1, q2) ∈ l) (hb : Below w.heap.size w W) => nextCorner_any A c n l q1 q2 W hln hn hpg (hpg _ hq) (rd_more (rd_below hR hb (Nat.le_refl _)) hb.size))
  have HA := Lib.hid hAr
  clear hR hln hpg hnd hAr hi0 hz0 hz1 hz2
  generalize MH.hull (srt l) ++ [h0] = HH at *
  generalize MH.hull (srt l) = H at *
  obtain ⟨m, hm⟩ : ∃ m, m = H.length := ⟨_, rfl⟩
  have HM := Lib.hid hm
  have hm60 : m ≤ 60 := by rw [hm]; exact HA.out.few
  have hmp : 0 < m := by rw [hm]; exact HA.out.pos
  clear hm
  obtain ⟨a1, a2⟩ := h0
  go_enter Try.func52, Try.ntmps52
  go_wp2_with fail
  refine KM.out.mono ?_; rintro e w1 ⟨⟨m1, m2, rfl, hmm, hmin⟩, hb1⟩
  have hme := HA.out.least.2 _ hmm hmin
  injection hme with e1 e2
  subst e1; subst e2
  clear hmm hmin KM
  go_wp2_with fail
  obtain ⟨W2, hW2⟩ : ∃ W, W = (w1.alloc (.cells #[.int .i64 m1, .int .i64 m2] 38)).alloc (.cells #[.int .i64 m1, .int .i64 m2] 38) := ⟨_, rfl⟩
  rw [← hW2]
  have own2 : W2.ownsRow w.heap.size 38 2 (.slice (some ⟨w1.heap.size + 1, 0, none⟩) 1 1) 1 (flat [(m1, m2)]) := by
    rw [hW2]
    have h := World.ownsRow_lit (base := w.heap.size) (e := 38) (size := 2) (w1.alloc (.cells #[.int .i64 m1, .int .i64 m2] 38)) #[.int .i64 m1, .int .i64 m2] 1 (by have := hb1.size; simp; omega) (by decide) rfl
    rw [show flat [(m1, m2)] = [.int .i64 m1, .int .i64 m2] from rfl]
    simpa using h
  have x30 : W2.cell? ⟨w1.heap.size, 0, none⟩ = some (.int .i64 m1) := by rw [hW2]; go_simp
  have x31 : W2.cell? ⟨w1.heap.size, 1, none⟩ = some (.int .i64 m2) := by rw [hW2]; go_simp
  have z3 : w1.heap.size + 1 < W2.heap.size := by rw [hW2]; simp
  have BW2 : Below w1.heap.size w1 W2 := by rw [hW2]; exact ((Below.refl _ _).alloc (Nat.le_refl _) _).alloc (by simp) _
  clear hW2
  have BW := hb1.trans (BW2.mono hb1.size)
  refine (KN.out m1 m2 _ HA.out.least.1 BW).mono ?_; rintro e w3 ⟨rfl, hb3⟩
  have hnx := HA.out.next 0 HA.out.pos
  rw [HA.out.first] at hnx
  rw [hnx]
  obtain ⟨q1, q2, hqe⟩ : ∃ q1 q2, pt HH (0 + 1) = (q1, q2) := ⟨_, _, rfl⟩
  rw [hqe]
  have HQE := Lib.hid hqe
  have hz13 := hb1.size
  have hz33 := hb3.size
  have HT1 : Hid (H.take 1 = [(m1, m2)]) := Lib.hid (by
    have e1 := HA.out.same 0 HA.out.pos
    rw [HA.out.first] at e1
    rw [show (1 : Nat) = 0 + 1 from rfl, List.take_add_one, pt_get HA.out.pos, ← e1]
    rfl)
  have HS0 : Hid (BdS w (w3.alloc (.cells #[.int .i64 q1, .int .i64 q2] 38)) (.slice (some ⟨w1.heap.size + 1, 0, none⟩) 1 1) (0 + 1) (H.take (0 + 1)) w1.heap.size w3.heap.size m1 m2 q1 q2) := Lib.hid (by
    have B3 := BW.trans (hb3.mono BW.size)
    obtain ⟨hc, _⟩ := bcell hb3
    rw [show H.take (0 + 1) = [(m1, m2)] from HT1.out]
    exact ⟨Below.alloc B3 B3.size _, (ownB own2 hb3 (Nat.le_refl _)).alloc _, by omega, by omega, by simp; omega, by simp, (World.cell?_alloc_lt w3 _ ⟨w1.heap.size, 0, none⟩ (by show w1.heap.size < w3.heap.size; omega)).trans ((hc _ _ (by omega)).trans x30), (World.cell?_alloc_lt w3 _ ⟨w1.heap.size, 1, none⟩ (by show w1.heap.size < w3.heap.size; omega)).trans ((hc _ _ (by omega)).trans x31), by go_simp, by go_simp, fun o => by rw [frozen?_alloc_cells]; simp [World.frozen?], by simp [Value.ownBlock], by simp [Value.ownBlock]; omega, by omega⟩)
  clear hnx hqe own2 x30 x31 hb3 BW BW2 z3
  go_wp2_with fail
  go_loopg [4, 5] m (fun g o p wr => ∃ (i : Nat) (v : Value) (g5 : Nat) (q1 q2 : Int), v = o ∧ i < m ∧ g = m - i ∧ p = .pointer (some ⟨g5, 0, none⟩) ∧ Hid (pt HH (i + 1) = (q1, q2)) ∧ Hid (BdS w wr v (i + 1) (H.take (i + 1)) w1.heap.size g5 m1 m2 q1 q2))
  case atStart => exact ⟨0, _, w3.heap.size, q1, q2, rfl, hmp, rfl, rfl, HQE, HS0⟩
  case round =>
    clear HS0 HQE
    obtain ⟨i, v, g5, q1, q2, rfl, hi, hg, rfl, hq, hS⟩ := hrel
    rename World => wo
    have HGK := Lib.hid hg
    clear hg
    have c30 := hS.out.c30
    have c31 := hS.out.c31
    have c50 := hS.out.c50
    have c51 := hS.out.c51
    have z5 := hS.out.z5
    have z3 := hS.out.z3
    have hbz := hS.out.bel.size
    by_cases hi2 : i + 1 < m
    · have hne := HA.out.diff (i + 1) (by omega) (by rw [← HM.out]; exact hi2)
      rw [hq.out] at hne
      have hql := HA.out.mem (i + 1) (by rw [← HM.out]; omega)
      rw [hq.out] at hql
      have HTK : Hid (H.take (i + 1 + 1) = H.take (i + 1) ++ [(q1, q2)]) := Lib.hid (by
        have e1 := HA.out.same (i + 1) (by rw [← HM.out]; exact hi2)
        rw [List.take_add_one (i := i + 1), pt_get (by rw [← HM.out]; exact hi2), ← e1, hq.out]
        rfl)
      have HBU : Hid (BdS w (wo.alloc (.cells #[.int .i64 q1, .int .i64 q2] 38)) v (i + 1) (H.take (i + 1)) w1.heap.size g5 m1 m2 q1 q2) := Lib.hid (hS.out.up ((Below.refl _ _).alloc (Nat.le_refl _) _))
      have HO1 := Lib.hid HBU.out.own
      have hz1 := HBU.out.bel.size
      by_cases h1 : q1 = m1
      · have h2 : ¬ q2 = m2 := fun h => hne (by rw [h1, h])
        subst h1
        clear hne
        go_wp2_with (at_builtin; refine wpList_append_own_at _ rfl (.tmp 19) (.tmp 21) 25 rfl w.heap.size 38 i0 (.agg #[.int .i64 0, .int .i64 0]) 2 16 Try.underlying25 HI.out.1 HI.out.2.1 HI.out.2.2.1 HI.out.2.2.2 rfl (by decide) v (i + 1) (flat (H.take (i + 1))) rfl HO1.out ⟨wo.heap.size, 0, none⟩ 1 1 [.int .i64 q1, .int .i64 q2] rfl rfl (two_cells (by go_simp) (by go_simp)) (two_one _ _) (by unfold maxLen; omega) (by omega) hz1 ?_)
        intro v' w9 own9 hgr9 _ hat
        have BU := HBU.out
        have hsz9 := hgr9.size
        have hsw : wo.heap.size < (wo.alloc (.cells #[.int .i64 q1, .int .i64 q2] 38)).heap.size := by simp
        have d30 := hgr9.cell BU.c30 (fun e => BU.n3 e.symm)
        have d31 := hgr9.cell BU.c31 (fun e => BU.n3 e.symm)
        have d50 := hgr9.cell BU.c50 (fun e => BU.n5 e.symm)
        have d51 := hgr9.cell BU.c51 (fun e => BU.n5 e.symm)
        have z3' := Nat.lt_of_lt_of_le BU.z3 hsz9
        have z5' := Nat.lt_of_lt_of_le BU.z5 hsz9
        have B9 := BU.bel.grown hgr9 BU.bel.size (fun g hg => (World.ownsRow.lt BU.own g hg).1)
        have n3' : v'.ownBlock ≠ some w1.heap.size := by
          rcases hat with h | h
          · rw [h]; exact BU.n3
          · rw [h]; intro e; injection e with e; have := BU.z3; omega
        have nl9 : ∀ g, v'.ownBlock = some g → g < w9.heap.size := fun g hg => (World.ownsRow.lt own9 g hg).2
        have HO9 : Hid (w9.ownsRow w.heap.size 38 2 v' (i + 1 + 1) (flat (H.take (i + 1 + 1)))) := Lib.hid (by
          rw [HTK.out, flat_snoc]
          exact own9)
        have HL3 := Lib.hid BU.l3
        clear own9 hgr9 hat BU HBU HO1 hS
        go_wp2_with fail
        obtain ⟨Wq, hWq⟩ : ∃ W, W = w9.alloc (.cells #[.int .i64 q1, .int .i64 q2] 38) := ⟨_, rfl⟩
        rw [← hWq]
        have SQ : BdS w Wq v' (i + 1 + 1) (H.take (i + 1 + 1)) w1.heap.size w9.heap.size q1 m2 q1 q2 := by
          rw [hWq]
          exact ⟨Below.alloc B9 B9.size _, HO9.out.alloc _, HL3.out, B9.size, by simp; omega, by simp, (World.cell?_alloc_lt w9 _ ⟨w1.heap.size, 0, none⟩ z3').trans d30, (World.cell?_alloc_lt w9 _ ⟨w1.heap.size, 1, none⟩ z3').trans d31, by go_simp, by go_simp, fun o => by rw [frozen?_alloc_cells]; simp [World.frozen?], n3', fun e => absurd (nl9 _ e) (Nat.lt_irrefl _), Nat.ne_of_lt z3'⟩
        have x50 := SQ.c50
        have x51 := SQ.c51
        have HSQ := Lib.hid SQ
        clear hWq SQ d30 d31 d50 d51 HO9 B9
        refine (KN.out q1 q2 _ hql HSQ.out.bel).mono ?_; rintro e w10 ⟨rfl, hb10⟩
        have S10 := HSQ.out.up hb10
        have y50 := S10.c50
        have y51 := S10.c51
        have yf := S10.f5
        obtain ⟨r1, r2, hre⟩ : ∃ r1 r2, pt HH (i + 1 + 1) = (r1, r2) := ⟨_, _, rfl⟩
        have hnx := HA.out.next (i + 1) (by rw [← HM.out]; exact hi2)
        rw [hq.out, hre] at hnx
        rw [hnx]
        have HS11 := Lib.hid (S10.store r1 r2)
        have HRE := Lib.hid hre
        clear S10 x50 x51 hre hnx hb10
        go_wp2_with fail
        go_roundg (m - (i + 1))
        case measure => have := HGK.out; omega
        case rel => exact ⟨i + 1, v', w9.heap.size, r1, r2, rfl, hi2, rfl, rfl, HRE, HS11⟩

      · clear hne
        go_wp2_with (at_builtin; refine wpList_append_own_at _ rfl (.tmp 19) (.tmp 21) 25 rfl w.heap.size 38 i0 (.agg #[.int .i64 0, .int .i64 0]) 2 16 Try.underlying25 HI.out.1 HI.out.2.1 HI.out.2.2.1 HI.out.2.2.2 rfl (by decide) v (i + 1) (flat (H.take (i + 1))) rfl HO1.out ⟨wo.heap.size, 0, none⟩ 1 1 [.int .i64 q1, .int .i64 q2] rfl rfl (two_cells (by go_simp) (by go_simp)) (two_one _ _) (by unfold maxLen; omega) (by omega) hz1 ?_)
        intro v' w9 own9 hgr9 _ hat
        have BU := HBU.out
        have hsz9 := hgr9.size
        have hsw : wo.heap.size < (wo.alloc (.cells #[.int .i64 q1, .int .i64 q2] 38)).heap.size := by simp
        have d30 := hgr9.cell BU.c30 (fun e => BU.n3 e.symm)
        have d31 := hgr9.cell BU.c31 (fun e => BU.n3 e.symm)
        have d50 := hgr9.cell BU.c50 (fun e => BU.n5 e.symm)
        have d51 := hgr9.cell BU.c51 (fun e => BU.n5 e.symm)
        have z3' := Nat.lt_of_lt_of_le BU.z3 hsz9
        have z5' := Nat.lt_of_lt_of_le BU.z5 hsz9
        have B9 := BU.bel.grown hgr9 BU.bel.size (fun g hg => (World.ownsRow.lt BU.own g hg).1)
        have n3' : v'.ownBlock ≠ some w1.heap.size := by
          rcases hat with h | h
          · rw [h]; exact BU.n3
          · rw [h]; intro e; injection e with e; have := BU.z3; omega
        have nl9 : ∀ g, v'.ownBlock = some g → g < w9.heap.size := fun g hg => (World.ownsRow.lt own9 g hg).2
        have HO9 : Hid (w9.ownsRow w.heap.size 38 2 v' (i + 1 + 1) (flat (H.take (i + 1 + 1)))) := Lib.hid (by
          rw [HTK.out, flat_snoc]
          exact own9)
        have HL3 := Lib.hid BU.l3
        clear own9 hgr9 hat BU HBU HO1 hS
        go_wp2_with fail
        obtain ⟨Wq, hWq⟩ : ∃ W, W = w9.alloc (.cells #[.int .i64 q1, .int .i64 q2] 38) := ⟨_, rfl⟩
        rw [← hWq]
        have SQ : BdS w Wq v' (i + 1 + 1) (H.take (i + 1 + 1)) w1.heap.size w9.heap.size m1 m2 q1 q2 := by
          rw [hWq]
          exact ⟨Below.alloc B9 B9.size _, HO9.out.alloc _, HL3.out, B9.size, by simp; omega, by simp, (World.cell?_alloc_lt w9 _ ⟨w1.heap.size, 0, none⟩ z3').trans d30, (World.cell?_alloc_lt w9 _ ⟨w1.heap.size, 1, none⟩ z3').trans d31, by go_simp, by go_simp, fun o => by rw [frozen?_alloc_cells]; simp [World.frozen?], n3', fun e => absurd (nl9 _ e) (Nat.lt_irrefl _), Nat.ne_of_lt z3'⟩
        have x50 := SQ.c50
        have x51 := SQ.c51
        have HSQ := Lib.hid SQ
        clear hWq SQ d30 d31 d50 d51 HO9 B9
        refine (KN.out q1 q2 _ hql HSQ.out.bel).mono ?_; rintro e w10 ⟨rfl, hb10⟩
        have S10 := HSQ.out.up hb10
        have y50 := S10.c50
        have y51 := S10.c51
        have yf := S10.f5
        obtain ⟨r1, r2, hre⟩ : ∃ r1 r2, pt HH (i + 1 + 1) = (r1, r2) := ⟨_, _, rfl⟩
        have hnx := HA.out.next (i + 1) (by rw [← HM.out]; exact hi2)
        rw [hq.out, hre] at hnx
        rw [hnx]
        have HS11 := Lib.hid (S10.store r1 r2)
        have HRE := Lib.hid hre
        clear S10 x50 x51 hre hnx hb10
        go_wp2_with fail
        go_roundg (m - (i + 1))
        case measure => have := HGK.out; omega
        case rel => exact ⟨i + 1, v', w9.heap.size, r1, r2, rfl, hi2, rfl, rfl, HRE, HS11⟩

    · have him : m = i + 1 := by omega
      have hql : pt HH m = (m1, m2) := by rw [HM.out]; exact HA.out.last
      rw [him] at hql
      have hqq := hq.out
      rw [hql] at hqq
      injection hqq with e1 e2
      subst e1; subst e2
      have HTL : Hid (H.take (i + 1) = H) := Lib.hid (List.take_of_length_le (by rw [← HM.out]; omega))
      have HLN : Hid (H.length = i + 1) := Lib.hid (by rw [← HM.out]; exact him)
      clear hql
      go_wp2_with fail
      go_ret
      exact ⟨⟨_, rfl, by have h := hS.out.own; rw [HTL.out] at h; rw [HLN.out]; exact h⟩, hS.out.bel⟩
end Go.Proofs.Ythpbnfmfedggjaa
