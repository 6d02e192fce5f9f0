/- joined: Ov Oz Oaa Oab Ok Oac -/
import Derived.Test.YtmhdbodmpohdnaaZCountInLine2
/- plain: right angles counted at each corner, and in each three -/
namespace Go.Proofs.Ytmhdbodmpohdnaa
open Go.ChangeShapes Go.WideShapes Go.ChangeAt Go.RowKit Go.Joins
set_option linter.unusedVariables false
set_option linter.unusedSimpArgs false
set_option maxRecDepth 4000
theorem sq_split (A : Nat → Nat → Int) : ∀ N : Nat, sm (fun i => sm (fun k => if i = k then 0 else A i k) N) N = sm (fun k => sm (fun m => A k m + A m k) k) N
  | 0 => rfl
  | N + 1 => by
    rw [sm_succ, sm_succ (fun k => sm (fun m => A k m + A m k) k)]
    have e1 : sm (fun i => sm (fun k => if i = k then 0 else A i k) (N + 1)) N = sm (fun i => sm (fun k => if i = k then 0 else A i k) N) N + sm (fun i => A i N) N := by
      rw [← sm_add]
      exact sm_congr fun i hi => by rw [sm_succ, if_neg (by omega)]
    have e2 : sm (fun k => if N = k then 0 else A N k) (N + 1) = sm (fun k => A N k) N := by
      rw [sm_succ, if_pos rfl, Int.add_zero]
      exact sm_congr fun k hk => if_neg (by omega)
    rw [e1, e2, sq_split A N, sm_add]
    have e4 : sm (fun k => A N k) N = sm (A N) N := rfl
    omega
theorem tri_split (G : Nat → Nat → Nat → Int) : ∀ N : Nat, sm (fun i => sm (fun j => sm (fun k => if i ≠ j ∧ i ≠ k then G i j k else 0) j) N) N = sm (fun i => sm (fun k => sm (fun m => G i k m + G k i m + G m i k) k) i) N
  | 0 => rfl
  | N + 1 => by
    rw [sm_succ, sm_succ (fun i => sm (fun k => sm (fun m => G i k m + G k i m + G m i k) k) i)]
    have e1 : sm (fun i => sm (fun j => sm (fun k => if i ≠ j ∧ i ≠ k then G i j k else 0) j) (N + 1)) N = sm (fun i => sm (fun j => sm (fun k => if i ≠ j ∧ i ≠ k then G i j k else 0) j) N) N + sm (fun i => sm (fun k => if i = k then 0 else G i N k) N) N := by
      rw [← sm_add]
      exact sm_congr fun i hi => by
        rw [sm_succ]
        congr 1
        exact sm_congr fun k hk => by
          by_cases h : i = k
          · rw [if_neg (by omega), if_pos h]
          · rw [if_pos (by omega), if_neg h]
    have e2 : sm (fun j => sm (fun k => if N ≠ j ∧ N ≠ k then G N j k else 0) j) (N + 1) = sm (fun j => sm (fun k => G N j k) j) N := by
      rw [sm_succ]
      have z : sm (fun k => if N ≠ N ∧ N ≠ k then G N N k else 0) N = 0 := by
        rw [show (fun k => if N ≠ N ∧ N ≠ k then G N N k else 0) = (fun _ : Nat => (0 : Int)) from funext fun k => if_neg (by omega), sm_zero]
      rw [z, Int.add_zero]
      exact sm_congr fun j hj => sm_congr fun k hk => if_pos (by omega)
    rw [e1, e2, tri_split G N, sq_split (fun i k => G i N k) N]
    have e3 : sm (fun k => sm (fun m => G N k m + G k N m + G m N k) k) N = sm (fun k => sm (fun m => G N k m) k) N + sm (fun k => sm (fun m => G k N m + G m N k) k) N := by
      rw [← sm_add]
      exact sm_congr fun k hk => by
        rw [← sm_add]
        exact sm_congr fun m hm => by omega
    rw [e3]
    omega
def dotI (a b c : Int × Int) : Int := (b.1 - a.1) * (c.1 - a.1) + (b.2 - a.2) * (c.2 - a.2)
def dI (a b c : Int × Int) : Int := if dotI a b c = 0 then 1 else 0
theorem sq_dot (a b c : Int × Int) : sqP c a + sqP a b - sqP b c = 2 * dotI a b c := by unfold sqP sqI dotI; grind
theorem sqP_comm (a b : Int × Int) : sqP a b = sqP b a := by unfold sqP sqI; grind
theorem dot_two (a b c : Int × Int) : dotI a b c + dotI b a c = sqP a b := by unfold sqP sqI dotI; grind
theorem sqP_pos {a b : Int × Int} (h : a ≠ b) : 0 < sqP a b := by
  unfold sqP sqI
  have h1 : ∀ x : Int, 0 ≤ x * x := fun x => by
    rcases Int.le_total 0 x with g | g
    · exact Int.mul_nonneg g g
    · have := Int.mul_nonneg (show 0 ≤ -x by omega) (show 0 ≤ -x by omega)
      rwa [Int.neg_mul_neg] at this
  have h2 : ∀ x : Int, x ≠ 0 → 0 < x * x := fun x hx => by
    have := h1 x
    have : x * x ≠ 0 := fun e => by rcases Int.mul_eq_zero.1 e with g | g <;> exact hx g
    omega
  by_cases g : a.1 - b.1 = 0
  · have g2 : a.2 - b.2 ≠ 0 := fun e => h (Prod.ext (by omega) (by omega))
    have := h2 _ g2
    have := h1 (a.1 - b.1)
    omega
  · have := h2 _ g
    have := h1 (a.2 - b.2)
    omega
theorem rc_sum {a b c : Int × Int} (h1 : a ≠ b) (h2 : a ≠ c) (h3 : b ≠ c) : (if rcB a b c = true then (1 : Int) else 0) = dI a b c + dI b a c + dI c a b := by
  have e1 := sq_dot a b c
  have e2 := sq_dot b a c
  have e3 := sq_dot c a b
  have c1 := sqP_comm a b
  have c2 := sqP_comm a c
  have c3 := sqP_comm b c
  have t1 := dot_two a b c
  have t2 := dot_two a c b
  have t3 := dot_two b c a
  have p1 := sqP_pos h1
  have p2 := sqP_pos h2
  have p3 := sqP_pos h3
  have s1 : dotI a c b = dotI a b c := by unfold dotI; grind
  have s2 : dotI b c a = dotI b a c := by unfold dotI; grind
  have s3 : dotI c b a = dotI c a b := by unfold dotI; grind
  unfold rcB dI
  simp only [Bool.or_eq_true, decide_eq_true_eq]
  generalize dotI a b c = x at *
  generalize dotI b a c = y at *
  generalize dotI c a b = z at *
  by_cases g1 : x = 0
  · rw [if_pos (by omega), if_pos g1, if_neg (by omega), if_neg (by omega)]; rfl
  · by_cases g2 : y = 0
    · rw [if_pos (by omega), if_neg g1, if_pos g2, if_neg (by omega)]; rfl
    · by_cases g3 : z = 0
      · rw [if_pos (by omega), if_neg g1, if_neg g2, if_pos g3]; rfl
      · rw [if_neg (by omega), if_neg g1, if_neg g2, if_neg g3]; rfl
theorem cnt3_app (g : Nat × Nat × Nat → Bool) (L M : List (Nat × Nat × Nat)) : cnt3 g (L ++ M) = cnt3 g L + cnt3 g M := by unfold cnt3; rw [List.filter_append, List.length_append]
theorem cnt3_I (g : Nat × Nat × Nat → Bool) (i k : Nat) : ∀ m, ((cnt3 g (t3I i k m) : Nat) : Int) = sm (fun j => if g (i, k, j) = true then 1 else 0) m
  | 0 => rfl
  | m + 1 => by
    rw [t3I_succ, cnt3_snoc, sm_succ, ← cnt3_I g i k m]
    split <;> simp
theorem cnt3_M (g : Nat × Nat × Nat → Bool) (i : Nat) : ∀ k, ((cnt3 g (t3M i k) : Nat) : Int) = sm (fun k => sm (fun j => if g (i, k, j) = true then 1 else 0) k) k
  | 0 => rfl
  | k + 1 => by
    rw [t3M, cnt3_app, sm_succ, ← cnt3_M g i k, ← cnt3_I]
    push_cast
    rfl
theorem cnt3_A (g : Nat × Nat × Nat → Bool) : ∀ N, ((cnt3 g (t3A N) : Nat) : Int) = sm (fun i => sm (fun k => sm (fun j => if g (i, k, j) = true then 1 else 0) k) i) N
  | 0 => rfl
  | N + 1 => by
    rw [t3A, cnt3_app, sm_succ, ← cnt3_A g N, ← cnt3_M]
    push_cast
    rfl
/-- a right angle at i, seen at j and k -/
def rH (f : Nat → Int × Int) (i j k : Nat) : Int := if f i ≠ f j ∧ f i ≠ f k ∧ dotI (f i) (f j) (f k) = 0 then 1 else 0
def rtS (f : Nat → Int × Int) (N : Nat) : Int := sm (fun i => sm (fun j => sm (rH f i j) j) N) N
theorem bX_inj {h i k : Nat} (e : bX h i = bX h k) : i = k := by
  unfold bX at e
  injection e with e1 e2
  have q1 := Nat.div_add_mod i h
  have q2 := Nat.div_add_mod k h
  have r1 : i / h = k / h := by omega
  have r2 : i % h = k % h := by omega
  rw [r1, r2] at q1
  omega
theorem rt_eq (h N : Nat) : rtS (bX h) N = ((cnt3 (rgT (bX h)) (t3A N) : Nat) : Int) := by
  rw [cnt3_A]
  have e1 : rtS (bX h) N = sm (fun i => sm (fun j => sm (fun k => if i ≠ j ∧ i ≠ k then dI (bX h i) (bX h j) (bX h k) else 0) j) N) N := by
    unfold rtS
    refine sm_congr fun i _ => sm_congr fun j _ => sm_congr fun k _ => ?_
    unfold rH dI
    by_cases g : i ≠ j ∧ i ≠ k
    · rw [if_pos g]
      have n1 : bX h i ≠ bX h j := fun e => g.1 (bX_inj e)
      have n2 : bX h i ≠ bX h k := fun e => g.2 (bX_inj e)
      by_cases d : dotI (bX h i) (bX h j) (bX h k) = 0
      · rw [if_pos ⟨n1, n2, d⟩, if_pos d]
      · rw [if_neg (fun q => d q.2.2), if_neg d]
    · rw [if_neg g, if_neg]
      rintro ⟨n1, n2, _⟩
      exact g ⟨fun e => n1 (by rw [e]), fun e => n2 (by rw [e])⟩
  rw [e1, tri_split]
  refine sm_congr fun i _ => sm_congr fun k hk => sm_congr fun m hm => ?_
  unfold rgT
  exact (rc_sum (fun e => by have := bX_inj e; omega) (fun e => by have := bX_inj e; omega) (fun e => by have := bX_inj e; omega)).symm
theorem rH_bd (f : Nat → Int × Int) (i j k : Nat) : 0 ≤ rH f i j k ∧ rH f i j k ≤ 1 := by unfold rH; split <;> omega
theorem rR_bd (f : Nat → Int × Int) (i j k : Nat) (hk : k ≤ 144) : 0 ≤ sm (rH f i j) k ∧ sm (rH f i j) k ≤ 144 := by
  have := sm_bd (f := rH f i j) (c := 1) (n := k) (fun q _ => rH_bd f i j q)
  omega
theorem rQ_bd (f : Nat → Int × Int) (i j : Nat) (hj : j ≤ 144) : 0 ≤ sm (fun j => sm (rH f i j) j) j ∧ sm (fun j => sm (rH f i j) j) j ≤ 20736 := by
  have := sm_bd (f := fun j => sm (rH f i j) j) (c := 144) (n := j) (fun q hq => rR_bd f i q q (by omega))
  omega
theorem rS_bd (f : Nat → Int × Int) (N i : Nat) (hN : N ≤ 144) (hi : i ≤ 144) : 0 ≤ sm (fun i => sm (fun j => sm (rH f i j) j) N) i ∧ sm (fun i => sm (fun j => sm (rH f i j) j) N) i ≤ 2985984 := by
  have := sm_bd (f := fun i => sm (fun j => sm (rH f i j) j) N) (c := 20736) (n := i) (fun q hq => rQ_bd f q N hN)
  omega
end Go.Proofs.Ytmhdbodmpohdnaa
/- contract: threes with an area, the model; CountOfArea on both sides -/
namespace Go.Proofs.Ytmhdbodmpohdnaa
open Go.ChangeShapes Go.WideShapes Go.ChangeAt Go.RowKit Go.Joins
set_option linter.unusedVariables false
set_option linter.unusedSimpArgs false
set_option maxRecDepth 4000
theorem PtR.up' {W W' : World} {b : Nat} {x y : Int} (h : PtR W b x y) (hb : Below W.heap.size W W') : PtR W' b x y := ⟨Nat.lt_of_lt_of_le h.hi hb.size, ((bcell hb).1 _ _ h.hi).trans h.c0, ((bcell hb).1 _ _ h.hi).trans h.c1⟩
/-- has a three the area? -/
def wQ (f : Nat → Int × Int) (q : Int) (i j k : Nat) : Int := if szQ f q (i, j, k) = true then 1 else 0
theorem wQ_bd (f : Nat → Int × Int) (q : Int) (i j k : Nat) : 0 ≤ wQ f q i j k ∧ wQ f q i j k ≤ 1 := by unfold wQ; split <;> omega
theorem wR_bd (f : Nat → Int × Int) (q : Int) (i j k : Nat) (hk : k ≤ 144) : 0 ≤ sm (wQ f q i j) k ∧ sm (wQ f q i j) k ≤ 144 := by
  have := sm_bd (f := wQ f q i j) (c := 1) (n := k) (fun x _ => wQ_bd f q i j x)
  omega
theorem wS_bd (f : Nat → Int × Int) (q : Int) (i j : Nat) (hj : j ≤ 144) : 0 ≤ sm (fun j => sm (wQ f q i j) j) j ∧ sm (fun j => sm (wQ f q i j) j) j ≤ 20736 := by
  have := sm_bd (f := fun j => sm (wQ f q i j) j) (c := 144) (n := j) (fun x hx => wR_bd f q i x x (by omega))
  omega
theorem wT_bd (f : Nat → Int × Int) (q : Int) (i : Nat) (hi : i ≤ 144) : 0 ≤ sm (fun i => sm (fun j => sm (wQ f q i j) j) i) i ∧ sm (fun i => sm (fun j => sm (wQ f q i j) j) i) i ≤ 2985984 := by
  have := sm_bd (f := fun i => sm (fun j => sm (wQ f q i j) j) i) (c := 20736) (n := i) (fun x hx => wS_bd f q x x (by omega))
  omega
theorem ar_sum (f : Nat → Int × Int) (q : Int) (N : Nat) : sm (fun i => sm (fun j => sm (wQ f q i j) j) i) N = arN f (t3A N) q := (cnt3_A (szQ f q) N).symm
set_option maxRecDepth 100000 in
set_option maxHeartbeats 8000000 in
theorem specCountOfArea_t (w h q : Int) (W : World) (hg : bdB 6 w h = true) (hq : 0 ≤ q ∧ q ≤ 200) :
    Calls Try.prog 26 #[.int .i64 w, .int .i64 h, .int .i64 q] W fun e w' => e = .returned (.tuple #[.int .i64 (arN (bX h.toNat) (t3A (w.toNat * h.toNat)) q), .bool true]) ∧ Below W.heap.size W w' := by
  have K := Lib.hid (ctBoard_any w h 6 W)
  obtain ⟨h1, h2, h3, h4⟩ := bdB_true hg
  rw [hg] at K
  have KI := Lib.hid (fun W => l1In_any q 0 200 W)
  rw [decide_eq_true hq.1, decide_eq_true hq.2, Bool.and_self] at KI
  have nw : w.toNat ≤ 12 := by omega
  have nh : h.toNat ≤ 12 := by omega
  have h5 := bd_mul nw nh
  have KP := Lib.hid (fun W => ctPegs_any w.toNat h.toNat W nw nh)
  rw [show ((w.toNat : Nat) : Int) = w by omega, show ((h.toNat : Nat) : Int) = h by omega] at KP
  have HV : Hid (sm (fun i => sm (fun j => sm (wQ (bX h.toNat) q i j) j) i) (w.toNat * h.toNat) = arN (bX h.toNat) (t3A (w.toNat * h.toNat)) q) := Lib.hid (ar_sum _ _ _)
  have HBD : Hid (∀ i, i < w.toNat * h.toNat → Sz (bX h.toNat i).1 (bX h.toNat i).2) := Lib.hid (fun i hi => bX_sz nw nh hi)
  generalize arN (bX h.toNat) (t3A (w.toNat * h.toNat)) q = V at *
  generalize bX h.toNat = f at *
  generalize w.toNat * h.toNat = N at *
  have HS := Lib.hid (fun i hi => wT_bd f q i hi)
  have HQ := Lib.hid (fun i j hj => wS_bd f q i j hj)
  have HR := Lib.hid (fun i j k hk => wR_bd f q i j k hk)
  have HS1 : Hid (∀ i, sm (fun i => sm (fun j => sm (wQ f q i j) j) i) (i + 1) = sm (fun i => sm (fun j => sm (wQ f q i j) j) i) i + sm (fun j => sm (wQ f q i j) j) i) := Lib.hid (fun i => rfl)
  have HQ1 : Hid (∀ i j, sm (fun j => sm (wQ f q i j) j) (j + 1) = sm (fun j => sm (wQ f q i j) j) j + sm (wQ f q i j) j) := Lib.hid (fun i j => rfl)
  have HR1 : Hid (∀ i j k, sm (wQ f q i j) (k + 1) = sm (wQ f q i j) k + if szT f (i, j, k) = q then 1 else 0) := Lib.hid (fun i j k => by rw [sm_succ]; unfold wQ szQ; simp only [decide_eq_true_eq])
  have HS0 : Hid (sm (fun i => sm (fun j => sm (wQ f q i j) j) i) 0 = 0) := Lib.hid rfl
  have HQ0 : Hid (∀ i, sm (fun j => sm (wQ f q i j) j) 0 = 0) := Lib.hid (fun i => rfl)
  have HR0 : Hid (∀ i j, sm (wQ f q i j) 0 = 0) := Lib.hid (fun i j => rfl)
  have KTU : Hid (∀ i j k W, i < N → j < N → k < N → Calls Try.prog 51 #[.agg #[.int .i64 (f i).1, .int .i64 (f i).2], .agg #[.int .i64 (f j).1, .int .i64 (f j).2], .agg #[.int .i64 (f k).1, .int .i64 (f k).2]] W fun e w' => e = .returned (.int .i64 (twI (f i).1 (f i).2 (f j).1 (f j).2 (f k).1 (f k).2)) ∧ Below W.heap.size W w') := Lib.hid (fun i j k W hi hj hk => pgTurn_any _ _ _ _ _ _ W (HBD.out i hi) (HBD.out j hj) (HBD.out k hk))
  have HTB : Hid (∀ i j k, i < N → j < N → k < N → -80000000000 ≤ twI (f i).1 (f i).2 (f j).1 (f j).2 (f k).1 (f k).2 ∧ twI (f i).1 (f i).2 (f j).1 (f j).2 (f k).1 (f k).2 ≤ 80000000000) := Lib.hid (fun i j k hi hj hk => twI_bd (HBD.out i hi) (HBD.out j hj) (HBD.out k hk))
  have HST : Hid (∀ i j k, szT f (i, j, k) = ((twI (f i).1 (f i).2 (f j).1 (f j).2 (f k).1 (f k).2).natAbs : Int)) := Lib.hid (fun i j k => rfl)
  generalize sm (fun i => sm (fun j => sm (wQ f q i j) j) i) = S at *
  obtain ⟨Q, hQ⟩ : ∃ Q : Nat → Nat → Int, Q = fun i j => sm (fun j => sm (wQ f q i j) j) j := ⟨_, rfl⟩
  have eQ : ∀ i j, sm (fun j => sm (wQ f q i j) j) j = Q i j := fun i j => by rw [hQ]
  simp only [eQ] at HS1 HQ HQ1 HQ0
  obtain ⟨R, hR⟩ : ∃ R : Nat → Nat → Nat → Int, R = fun i j k => sm (wQ f q i j) k := ⟨_, rfl⟩
  have eR : ∀ i j k, sm (wQ f q i j) k = R i j k := fun i j k => by rw [hR]
  simp only [eR] at HQ1 HR HR1 HR0
  clear hQ eQ hR eR hg nw nh hq HBD
  have HN5 := Lib.hid h5
  go_enter Try.func26, Try.ntmps26
  go_wp2_with fail
  refine K.out.mono ?_; rintro e w1 ⟨rfl, hb1⟩
  go_wp2_with fail
  refine (KI.out _).mono ?_; rintro e _ ⟨rfl, rfl⟩
  go_wp2_with fail
  refine (KP.out w1).mono ?_; intro e w2 hret
  obtain ⟨A, c, rfl, hc1, hc2, hb2, hrd⟩ := retP_read hret
  have HC := Lib.hid hrd
  have B2 := hb1.trans (hb2.mono hb1.size)
  unfold maxLen at hc2
  clear hret hrd hb2 KP K hb1 KI
  go_wp2_with fail
  go_loopg [8, 30] N (fun g s i wr => ∃ k : Nat, k ≤ N ∧ g = N - k ∧ i = .int .i64 k ∧ s = .int .i64 (S k) ∧ Below w2.heap.size w2 wr)
  case atStart => exact ⟨0, Nat.zero_le _, rfl, rfl, by rw [HS0.out], Below.refl _ _⟩
  case round =>
    obtain ⟨i, hi, hg, rfl, rfl, hB⟩ := hrel
    rename World => wo
    have HGK := Lib.hid hg
    clear hg
    by_cases hlt : i < N
    · obtain ⟨b, off, hA, hb, x1, x2⟩ := HC.out wo hB i hlt
      subst hA
      have zB := hB.size
      have zb := Nat.lt_of_lt_of_le hb zB
      have HSi := Lib.hid (HS1.out i)
      have hSb := HS.out i (by omega)
      have HQi := Lib.hid (fun j hj => HQ.out i j hj)
      have HQi1 := Lib.hid (HQ1.out i)
      have HQi0 := Lib.hid (HQ0.out i)
      generalize S i = t0 at *
      generalize Q i = Qi at *
      obtain ⟨a1, a2, hae⟩ : ∃ a1 a2, f i = (a1, a2) := ⟨_, _, rfl⟩
      have HAE := Lib.hid hae
      rw [hae] at x1 x2
      have HSB := Lib.hid hSb
      have PA := PtR.new wo a1 a2 28
      have BA := Below.alloc hB zB (.cells #[.int .i64 a1, .int .i64 a2] 28)
      have HPA := Lib.hid PA
      have hic : i ≤ c := by omega
      clear hae hSb PA
      go_wp2_with fail
      obtain ⟨W1, hW1⟩ : ∃ W1, W1 = wo.alloc (.cells #[.int .i64 a1, .int .i64 a2] 28) := ⟨_, rfl⟩
      rw [← hW1] at HPA BA ⊢
      clear hW1 x1 x2 zb
      generalize wo.heap.size = Ba at *
      clear hB zB
      go_loopg [8, 39] i (fun g s j wr => ∃ k : Nat, k ≤ i ∧ g = i - k ∧ j = .int .i64 k ∧ s = .int .i64 (t0 + Qi k) ∧ Below w2.heap.size w2 wr ∧ Hid (PtR wr Ba a1 a2))
      case atStart => exact ⟨0, Nat.zero_le _, rfl, rfl, by rw [HQi0.out, Int.add_zero], BA, HPA⟩
      case round =>
        clear BA HPA
        obtain ⟨j, hj, hg, rfl, rfl, hB, hPA⟩ := hrel
        rename World => wi
        have HGJ := Lib.hid hg
        clear hg
        by_cases hlj : j < i
        · obtain ⟨b', off', hA', hb', x1, x2⟩ := HC.out wi hB j (by omega)
          obtain ⟨rfl, rfl⟩ : b' = b ∧ off' = off := by simp at hA'; exact ⟨hA'.1.symm, hA'.2.symm⟩
          have zB := hB.size
          have zb := Nat.lt_of_lt_of_le hb' zB
          have HQj := Lib.hid (HQi1.out j)
          have hQb := HQi.out j (by have := HN5.out; omega)
          have HRj := Lib.hid (fun k hk => HR.out i j k hk)
          have HRj1 := Lib.hid (HR1.out i j)
          have HRj0 := Lib.hid (HR0.out i j)
          generalize Qi j = t1 at *
          generalize R i j = Rj at *
          obtain ⟨b1, b2, hbe⟩ : ∃ b1 b2, f j = (b1, b2) := ⟨_, _, rfl⟩
          have HBE := Lib.hid hbe
          rw [hbe] at x1 x2
          have HQB := Lib.hid hQb
          have hjc : j ≤ c := by omega
          have PB := PtR.new wi b1 b2 28
          have BA := Below.alloc hB zB (.cells #[.int .i64 b1, .int .i64 b2] 28)
          have HPA := Lib.hid (hPA.out.up' (Below.alloc (Below.refl wi.heap.size wi) (Nat.le_refl _) (.cells #[.int .i64 b1, .int .i64 b2] 28)))
          have HPB := Lib.hid PB
          clear hbe hQb PB hA' hPA
          go_wp2_with fail
          obtain ⟨W2, hW2⟩ : ∃ W2, W2 = wi.alloc (.cells #[.int .i64 b1, .int .i64 b2] 28) := ⟨_, rfl⟩
          rw [← hW2] at HPA HPB BA ⊢
          clear hW2 x1 x2 zb
          generalize wi.heap.size = Bb at *
          clear hB zB
          go_loopg [8, 48] j (fun g s k wr => ∃ m : Nat, m ≤ j ∧ g = j - m ∧ k = .int .i64 m ∧ s = .int .i64 (t0 + t1 + Rj m) ∧ Below w2.heap.size w2 wr ∧ Hid (PtR wr Ba a1 a2) ∧ Hid (PtR wr Bb b1 b2))
          case atStart => exact ⟨0, Nat.zero_le _, rfl, rfl, by rw [HRj0.out, Int.add_zero], BA, HPA, HPB⟩
          case round =>
            clear BA HPA HPB
            obtain ⟨m, hm, hg, rfl, rfl, hB, hPA, hPB⟩ := hrel
            rename World => wv
            have HGM := Lib.hid hg
            clear hg
            by_cases hlm : m < j
            · obtain ⟨b'', off'', hA', hb'', x1, x2⟩ := HC.out wv hB m (by omega)
              obtain ⟨rfl, rfl⟩ : b'' = b' ∧ off'' = off' := by simp at hA'; exact ⟨hA'.1.symm, hA'.2.symm⟩
              have zB := hB.size
              have zb := Nat.lt_of_lt_of_le hb'' zB
              have hRb := HRj.out m (by have := HN5.out; omega)
              have HRm := Lib.hid (HRj1.out m)
              have KT := Lib.hid (fun W => KTU.out i j m W hlt (by omega) (by omega))
              have hTB := HTB.out i j m hlt (by omega) (by omega)
              have HSZ := Lib.hid (HST.out i j m)
              rw [HSZ.out] at HRm
              rw [HAE.out, HBE.out] at HRm KT hTB
              generalize Rj m = t2 at *
              obtain ⟨d1, d2, hde⟩ : ∃ d1 d2, f m = (d1, d2) := ⟨_, _, rfl⟩
              rw [hde] at x1 x2 HRm KT hTB
              simp only at HRm KT hTB
              clear hde hA' HSZ
              have KA := Lib.hid (fun W => l1Abs_any (twI a1 a2 b1 b2 d1 d2) W (by omega) (by omega))
              generalize twI a1 a2 b1 b2 d1 d2 = tw at *
              have g0 := hPA.out.c0
              have g1 := hPA.out.c1
              have gz := hPA.out.hi
              have g2 := hPB.out.c0
              have g3 := hPB.out.c1
              have gy := hPB.out.hi
              obtain ⟨s1, s2⟩ := HSB.out
              obtain ⟨s3, s4⟩ := HQB.out
              obtain ⟨s5, s6⟩ := hRb
              have UC := Below.alloc (Below.refl wv.heap.size wv) (Nat.le_refl _) (.cells #[.int .i64 d1, .int .i64 d2] 28)
              have HBN := Lib.hid (hB.trans (UC.mono zB))
              have HPA2 := Lib.hid (hPA.out.up' UC)
              have HPB2 := Lib.hid (hPB.out.up' UC)
              clear UC hB hPA hPB hTB
              go_wp2_with fail
              obtain ⟨W3, hW3⟩ : ∃ W3, W3 = wv.alloc (.cells #[.int .i64 d1, .int .i64 d2] 28) := ⟨_, rfl⟩
              rw [← hW3] at HBN HPA2 HPB2 ⊢
              clear hW3
              refine (KT.out W3).mono ?_; rintro e w5 ⟨rfl, hb5⟩
              have B5 := HBN.out.trans (hb5.mono HBN.out.size)
              have HPA5 := Lib.hid (HPA2.out.up' hb5)
              have HPB5 := Lib.hid (HPB2.out.up' hb5)
              clear hb5 HBN HPA2 HPB2 g0 g1 gz g2 g3 gy x1 x2 zb zB KT
              go_wp2_with fail
              refine (KA.out _).mono ?_; rintro e _ ⟨rfl, rfl⟩
              clear KA
              generalize ((tw.natAbs : Nat) : Int) = ta at *
              by_cases hs : ta = q
              · have HK := Lib.hid (HRm.out.trans (by rw [if_pos hs]))
                subst hs
                clear HRm
                go_wp2_with fail
                go_roundg (j - (m + 1))
                case measure => have := HGM.out; omega
                case rel => exact ⟨m + 1, by omega, rfl, by go_num, by rw [HK.out, Int.add_assoc], B5, HPA5, HPB5⟩
              · have HK := Lib.hid (HRm.out.trans (by rw [if_neg hs, Int.add_zero]))
                clear HRm
                go_wp2_with fail
                go_roundg (j - (m + 1))
                case measure => have := HGM.out; omega
                case rel => exact ⟨m + 1, by omega, rfl, by go_num, by rw [HK.out], B5, HPA5, HPB5⟩
            · obtain rfl : m = j := by omega
              go_wp2_with fail
              go_roundg (i - (m + 1))
              case measure => have := HGJ.out; omega
              case rel => exact ⟨m + 1, by omega, rfl, by go_num, by rw [HQj.out, Int.add_assoc], hB, hPA⟩
        · obtain rfl : j = i := by omega
          go_wp2_with fail
          go_roundg (N - (j + 1))
          case measure => have := HGK.out; omega
          case rel => exact ⟨j + 1, by omega, rfl, by go_num, by rw [HSi.out], hB⟩
    · obtain rfl : i = N := by omega
      have eV : Hid (S i = V) := HV
      go_wp2_with fail
      go_ret2
      exact ⟨by rw [eV.out]; rfl, B2.trans (hB.mono B2.size)⟩
theorem specCountOfArea_any (w h t : Int) (W : World) :
    Calls Try.prog 26 #[.int .i64 w, .int .i64 h, .int .i64 t] W fun e w' => e = .returned (.tuple #[.int .i64 (arV w h t), .bool (arB w h t)]) ∧ Below W.heap.size W w' := by
  unfold arV arB
  have K := Lib.hid (ctBoard_any w h 6 W)
  by_cases hg : bdB 6 w h = true
  · by_cases ht : 0 ≤ t ∧ t ≤ 200
    · have := specCountOfArea_t w h t W hg ht
      rw [hg, Bool.true_and, decide_eq_true ht.1, decide_eq_true ht.2, Bool.and_self, bdV_t]
      exact this
    · have hb : (decide (0 ≤ t) && decide (t ≤ 200)) = false := by simp; omega
      have KI := Lib.hid (fun W => l1In_any t 0 200 W)
      rw [hb] at KI
      rw [hg] at K ⊢
      rw [hb, Bool.true_and, bdV_f]
      clear hg hb ht
      go_enter Try.func26, Try.ntmps26
      go_wp2_with fail
      refine K.out.mono ?_; rintro e w1 ⟨rfl, hb1⟩
      go_wp2_with fail
      refine (KI.out _).mono ?_; rintro e _ ⟨rfl, rfl⟩
      go_wp2_with fail
      go_ret2
      exact ⟨rfl, hb1⟩
  · have hf : bdB 6 w h = false := by simpa using hg
    rw [hf] at K ⊢
    rw [Bool.false_and, bdV_f]
    clear hg hf
    go_enter Try.func26, Try.ntmps26
    go_wp2_with fail
    refine K.out.mono ?_; rintro e w1 ⟨rfl, hb1⟩
    go_wp2_with fail
    go_ret2
    exact ⟨rfl, hb1⟩
end Go.Proofs.Ytmhdbodmpohdnaa
/- plain: pegs that lie in a line between two pegs of a board -/
namespace Go.Proofs.Ytmhdbodmpohdnaa
open Go.ChangeShapes Go.WideShapes Go.ChangeAt Go.RowKit Go.Joins
set_option linter.unusedVariables false
set_option linter.unusedSimpArgs false
set_option maxRecDepth 4000
/-- multiples of c among 1, .., n -/
theorem sm_dvd (c : Nat) : ∀ n : Nat, sm (fun d => if c ∣ d + 1 then 1 else 0) n = ((n / c : Nat) : Int)
  | 0 => by simp [sm]
  | n + 1 => by
    rw [sm_succ, sm_dvd c n, Nat.succ_div]
    split <;> simp
/-- a step between two pegs: how often it goes into their distance, and the least one -/
structure Stp (h k i g u c : Nat) (v : Int) : Prop where
  hg : 0 < g
  hc : 0 < c
  hx : i / h = k / h + g * u
  hy : ((i % h : Nat) : Int) = ((k % h : Nat) : Int) + g * v
  co : Nat.Coprime u v.natAbs
  hu : u = 0 → v = 1
  ci : (c : Int) = u * h + v
  ik : i = k + g * c
theorem stp_of {h k i : Nat} (hh : 0 < h) (hki : k < i) : ∃ u c v, Stp h k i (Nat.gcd (i / h - k / h) (((i % h : Nat) : Int) - ((k % h : Nat) : Int)).natAbs) u c v := by
  have d1 := Nat.div_add_mod i h
  have d2 := Nat.div_add_mod k h
  have l1 := Nat.mod_lt i hh
  have l2 := Nat.mod_lt k hh
  have hle : k / h ≤ i / h := Nat.div_le_div_right (Nat.le_of_lt hki)
  obtain ⟨dx, hdx⟩ : ∃ dx, dx = i / h - k / h := ⟨_, rfl⟩
  obtain ⟨dy, hdy⟩ : ∃ dy, dy = ((i % h : Nat) : Int) - ((k % h : Nat) : Int) := ⟨_, rfl⟩
  rw [← hdx, ← hdy]
  obtain ⟨g, hg⟩ : ∃ g, g = Nat.gcd dx dy.natAbs := ⟨_, rfl⟩
  rw [← hg]
  have e1 : (i : Int) - k = (dx : Int) * h + dy := by
    have q1 : ((h * (i / h) + i % h : Nat) : Int) = i := by rw [d1]
    have q2 : ((h * (k / h) + k % h : Nat) : Int) = k := by rw [d2]
    have q3 : (dx : Int) = ((i / h : Nat) : Int) - ((k / h : Nat) : Int) := by omega
    rw [q3, hdy]
    push_cast at q1 q2 ⊢
    grind
  have hgp : 0 < g := by
    rcases Nat.eq_zero_or_pos g with z | z
    · rw [hg, Nat.gcd_eq_zero_iff] at z
      have : dy = 0 := by omega
      rw [z.1, this] at e1
      simp at e1
      omega
    · exact z
  obtain ⟨u, hu⟩ : g ∣ dx := by rw [hg]; exact Nat.gcd_dvd_left _ _
  obtain ⟨v, hv⟩ : (g : Int) ∣ dy := by
    rw [← Int.natAbs_dvd_natAbs, Int.natAbs_natCast, hg]; exact Nat.gcd_dvd_right _ _
  have hco : Nat.Coprime u v.natAbs := by
    have q : g = g * Nat.gcd u v.natAbs := by
      rw [← Nat.gcd_mul_left, ← hu]
      have : dy.natAbs = g * v.natAbs := by rw [hv, Int.natAbs_mul, Int.natAbs_natCast]
      rw [← this]
      exact hg
    have q2 : g * 1 = g * Nat.gcd u v.natAbs := by rw [Nat.mul_one]; exact q
    exact (Nat.eq_of_mul_eq_mul_left hgp q2).symm
  have e2 : (i : Int) - k = g * ((u : Int) * h + v) := by
    rw [e1, hu, hv]
    push_cast
    grind
  have hcp : 0 < (u : Int) * h + v := by
    have hp : 0 < (g : Int) * ((u : Int) * h + v) := by omega
    rcases Int.lt_trichotomy ((u : Int) * h + v) 0 with z | z | z
    · have := Int.mul_neg_of_pos_of_neg (show (0 : Int) < g by omega) z
      omega
    · rw [z] at hp; simp at hp
    · exact z
  refine ⟨u, ((u : Int) * h + v).toNat, v, hgp, by omega, ?_, ?_, hco, ?_, by omega, ?_⟩
  · omega
  · rw [← hv, hdy]; omega
  · intro hu0
    rw [hu0] at hco hcp
    have q : v.natAbs = 1 := by simpa [Nat.Coprime] using hco
    simp at hcp
    omega
  · have q : ((u : Int) * h + v) = ((((u : Int) * h + v).toNat : Nat) : Int) := by omega
    rw [q] at e2
    have : (i : Int) = ((k + g * ((u : Int) * h + v).toNat : Nat) : Int) := by
      push_cast at e2 ⊢
      omega
    omega
/-- pegs between two pegs, in a line with them -/
theorem line_iff {h k i g u c : Nat} {v : Int} (hh : 0 < h) (s : Stp h k i g u c v) {j : Nat} (hkj : k < j) (hji : j < i) :
    twI ((i / h : Nat) : Int) ((i % h : Nat) : Int) ((j / h : Nat) : Int) ((j % h : Nat) : Int) ((k / h : Nat) : Int) ((k % h : Nat) : Int) = 0 ↔ c ∣ j - k := by
  obtain ⟨hg, hc, hx, hy, co, hu, ci, ik⟩ := s
  have d1 := Nat.div_add_mod j h
  have d2 := Nat.div_add_mod k h
  have l1 := Nat.mod_lt j hh
  have l2 := Nat.mod_lt k hh
  have l3 := Nat.mod_lt i hh
  have hle : k / h ≤ j / h := Nat.div_le_div_right (Nat.le_of_lt hkj)
  obtain ⟨a, ha⟩ : ∃ a, j / h = k / h + a := ⟨j / h - k / h, by omega⟩
  obtain ⟨b, hb⟩ : ∃ b : Int, ((j % h : Nat) : Int) = ((k % h : Nat) : Int) + b := ⟨((j % h : Nat) : Int) - ((k % h : Nat) : Int), by omega⟩
  have ej : (j : Int) - k = (a : Int) * h + b := by
    have q1 : ((h * (j / h) + j % h : Nat) : Int) = j := by rw [d1]
    have q2 : ((h * (k / h) + k % h : Nat) : Int) = k := by rw [d2]
    rw [ha, Int.natCast_add, Int.natCast_mul, hb, Int.natCast_add] at q1
    rw [Int.natCast_add, Int.natCast_mul] at q2
    generalize ((k % h : Nat) : Int) = r at *
    generalize ((k / h : Nat) : Int) = s at *
    grind
  have etw : twI ((i / h : Nat) : Int) ((i % h : Nat) : Int) ((j / h : Nat) : Int) ((j % h : Nat) : Int) ((k / h : Nat) : Int) ((k % h : Nat) : Int) = g * (u * b - v * a) := by
    rw [hx, ha, hy, hb]
    unfold twI
    push_cast
    grind
  rw [etw]
  constructor
  · intro h0
    have e0 : (u : Int) * b = v * a := by
      rcases Int.mul_eq_zero.1 h0 with z | z
      · omega
      · omega
    have e1 : u * b.natAbs = a * v.natAbs := by
      have := congrArg Int.natAbs e0
      rw [Int.natAbs_mul, Int.natAbs_mul, Int.natAbs_natCast, Int.natAbs_natCast] at this
      rw [this, Nat.mul_comm]
    by_cases hu0 : u = 0
    · have hv := hu hu0
      rw [hu0, hv] at e0
      have a0 : a = 0 := by simpa using e0.symm
      rw [hu0, hv] at ci
      have c1 : c = 1 := by
        have : (c : Int) = 1 := by simpa using ci
        omega
      rw [c1]
      exact Nat.one_dvd _
    · obtain ⟨t, ht⟩ : u ∣ a := co.dvd_of_dvd_mul_right ⟨b.natAbs, e1.symm⟩
      have e2 : b = v * t := by
        rw [ht] at e0
        push_cast at e0
        have : (u : Int) * (b - v * t) = 0 := by grind
        rcases Int.mul_eq_zero.1 this with z | z
        · omega
        · omega
      have e3 : (j : Int) - k = c * t := by
        rw [ej, ci, e2, ht]
        push_cast
        grind
      refine ⟨t, ?_⟩
      have : ((j - k : Nat) : Int) = ((c * t : Nat) : Int) := by push_cast; omega
      omega
  · rintro ⟨t, ht⟩
    have htg : t < g := by
      have : c * t < c * g := by rw [Nat.mul_comm c g]; omega
      exact Nat.lt_of_mul_lt_mul_left this
    -- the peg at t steps lies on the board
    have hyt : 0 ≤ ((k % h : Nat) : Int) + t * v ∧ ((k % h : Nat) : Int) + t * v < h := by
      rcases Int.le_total 0 v with z | z
      · have m1 := Int.mul_nonneg (show (0 : Int) ≤ t by omega) z
        have m2 := Int.mul_le_mul_of_nonneg_right (show (t : Int) ≤ g by omega) z
        omega
      · have m1 := Int.mul_nonneg (show (0 : Int) ≤ t by omega) (show 0 ≤ -v by omega)
        have m2 := Int.mul_le_mul_of_nonneg_right (show (t : Int) ≤ g by omega) (show 0 ≤ -v by omega)
        rw [Int.mul_neg] at m1
        rw [Int.mul_neg, Int.mul_neg] at m2
        omega
    obtain ⟨y, hyy⟩ : ∃ y : Nat, (y : Int) = ((k % h : Nat) : Int) + t * v := ⟨(((k % h : Nat) : Int) + t * v).toNat, by omega⟩
    have hyl : y < h := by omega
    have ejj : (j : Int) = ((h * (k / h + t * u) + y : Nat) : Int) := by
      have q2 : ((h * (k / h) + k % h : Nat) : Int) = k := by rw [d2]
      have q3 : ((j - k : Nat) : Int) = ((c * t : Nat) : Int) := by rw [ht]
      have q4 : (j : Int) = k + c * t := by push_cast at q3; omega
      rw [q4, ci]
      push_cast at q2 ⊢
      rw [hyy]
      grind
    have ej2 : j = h * (k / h + t * u) + y := by omega
    have f1 : j / h = k / h + t * u := by rw [ej2, Nat.mul_add_div hh, Nat.div_eq_of_lt hyl]; omega
    have f2 : j % h = y := by rw [ej2, Nat.mul_add_mod, Nat.mod_eq_of_lt hyl]
    have ea : a = t * u := by omega
    have eb : b = t * v := by rw [f2] at hb; omega
    rw [ea, eb]
    push_cast
    have : (u : Int) * (t * v) - v * (t * u) = 0 := by grind
    rw [this, Int.mul_zero]
/-- how many pegs lie between two, in a line with them -/
theorem line_count {h k i : Nat} (hh : 0 < h) (hki : k < i) :
    sm (fun d => if twI ((i / h : Nat) : Int) ((i % h : Nat) : Int) (((k + 1 + d) / h : Nat) : Int) (((k + 1 + d) % h : Nat) : Int) ((k / h : Nat) : Int) ((k % h : Nat) : Int) = 0 then 1 else 0) (i - 1 - k) = ((Nat.gcd (i / h - k / h) (((i % h : Nat) : Int) - ((k % h : Nat) : Int)).natAbs : Nat) : Int) - 1 := by
  obtain ⟨u, c, v, s⟩ := stp_of hh hki
  generalize Nat.gcd (i / h - k / h) (((i % h : Nat) : Int) - ((k % h : Nat) : Int)).natAbs = g at *
  have key : ∀ n : Nat, n ≤ i - 1 - k → sm (fun d => if twI ((i / h : Nat) : Int) ((i % h : Nat) : Int) (((k + 1 + d) / h : Nat) : Int) (((k + 1 + d) % h : Nat) : Int) ((k / h : Nat) : Int) ((k % h : Nat) : Int) = 0 then 1 else 0) n = sm (fun d => if c ∣ d + 1 then 1 else 0) n := by
    intro n
    induction n with
    | zero => intro _; rfl
    | succ n ih =>
      intro hn
      rw [sm_succ, sm_succ, ih (by omega)]
      congr 1
      have q := line_iff hh s (j := k + 1 + n) (by omega) (by omega)
      rw [show k + 1 + n - k = n + 1 by omega] at q
      by_cases z : c ∣ n + 1
      · rw [if_pos (q.2 z), if_pos z]
      · rw [if_neg (fun w => z (q.1 w)), if_neg z]
  rw [key _ (Nat.le_refl _), sm_dvd]
  have hik := s.ik
  have hg := s.hg
  have hc := s.hc
  have e : i - 1 - k = c * g - 1 := by rw [Nat.mul_comm c g]; omega
  have e2 : (c * g - 1) / c = g - 1 := by
    have : c * g - 1 = c * (g - 1) + (c - 1) := by
      obtain ⟨g', rfl⟩ : ∃ g', g = g' + 1 := ⟨g - 1, by omega⟩
      rw [Nat.mul_add, Nat.mul_one, Nat.add_sub_cancel]
      omega
    rw [this, Nat.mul_add_div hc, Nat.div_eq_of_lt (by omega)]
    omega
  rw [e, e2]
  omega
end Go.Proofs.Ytmhdbodmpohdnaa
/- plain: threes in a line are as many as the pegs between pairs -/
namespace Go.Proofs.Ytmhdbodmpohdnaa
open Go.ChangeShapes Go.WideShapes Go.ChangeAt Go.RowKit Go.Joins
set_option linter.unusedVariables false
set_option linter.unusedSimpArgs false
set_option maxRecDepth 4000
theorem sm_tri (X : Nat → Nat → Int) : ∀ n : Nat, sm (fun j => sm (fun k => X j k) j) n = sm (fun k => sm (fun d => X (k + 1 + d) k) (n - 1 - k)) n
  | 0 => rfl
  | n + 1 => by
    rw [sm_succ, sm_tri X n, sm_succ (fun k => sm (fun d => X (k + 1 + d) k) (n + 1 - 1 - k))]
    have z : sm (fun d => X (n + 1 + d) n) (n + 1 - 1 - n) = 0 := by rw [show n + 1 - 1 - n = 0 by omega]; rfl
    rw [z, Int.add_zero, ← sm_add]
    exact sm_congr fun k hk => by
      rw [show n + 1 - 1 - k = (n - 1 - k) + 1 by omega, sm_succ, show k + 1 + (n - 1 - k) = n by omega]
theorem sm_sq (A : Nat → Nat → Int) : ∀ N : Nat, sm (fun i => sm (fun k => A i k) N) N = sm (fun k => sm (fun m => A k m + A m k) k) N + sm (fun i => A i i) N
  | 0 => rfl
  | N + 1 => by
    rw [sm_succ, sm_succ (fun k => sm (fun m => A k m + A m k) k), sm_succ (fun i => A i i)]
    have e1 : sm (fun i => sm (fun k => A i k) (N + 1)) N = sm (fun i => sm (fun k => A i k) N) N + sm (fun i => A i N) N := by
      rw [← sm_add]
      exact sm_congr fun i hi => sm_succ _ _
    have e2 : sm (fun m => A N m + A m N) N = sm (fun k => A N k) N + sm (fun i => A i N) N := sm_add _ _ N
    rw [e1, sm_sq A N, sm_succ (fun k => A N k), e2]
    omega
theorem sm_pick (F : Nat → Int) {t : Nat} : ∀ {M : Nat}, t < M → sm (fun s => if t = s then F s else 0) M = F t
  | 0, h => absurd h (Nat.not_lt_zero _)
  | M + 1, h => by
    rw [sm_succ]
    by_cases e : t = M
    · subst e
      rw [if_pos rfl]
      have z : sm (fun s => if t = s then F s else 0) t = 0 := by
        rw [show sm (fun s => if t = s then F s else 0) t = sm (fun _ => 0) t from sm_congr fun i hi => if_neg (by omega), sm_zero]
      rw [z, Int.zero_add]
    · rw [if_neg e, sm_pick F (by omega), Int.add_zero]
/-- the steps between pegs number i and k -/
def stI2 (h i k : Nat) : Int := stepN (bX h i).1 (bX h i).2 (bX h k).1 (bX h k).2
def stG (h i k : Nat) : Nat := Nat.gcd (i / h - k / h) (((i % h : Nat) : Int) - ((k % h : Nat) : Int)).natAbs
theorem stI2_G {h i k : Nat} (hki : k < i) : stI2 h i k = ((stG h i k : Nat) : Int) := by
  have hle : k / h ≤ i / h := Nat.div_le_div_right (Nat.le_of_lt hki)
  unfold stI2 stepN stG bX
  simp only
  congr 2
  omega
theorem stI2_comm (h i k : Nat) : stI2 h i k = stI2 h k i := by
  unfold stI2 stepN
  rw [show ((bX h i).1 - (bX h k).1).natAbs = ((bX h k).1 - (bX h i).1).natAbs by omega, show ((bX h i).2 - (bX h k).2).natAbs = ((bX h k).2 - (bX h i).2).natAbs by omega]
theorem stG_bd {w h i k : Nat} (hh : 0 < h) (hki : k < i) (hi : i < w * h) : 0 < stG h i k ∧ stG h i k < max w h := by
  obtain ⟨u, c, v, s⟩ := stp_of hh hki
  have hg : 0 < stG h i k := s.hg
  refine ⟨hg, ?_⟩
  have b1 := bX_bd hi
  have b2 := bX_bd (show k < w * h by omega)
  unfold bX at b1 b2
  simp only at b1 b2
  have hle : k / h ≤ i / h := Nat.div_le_div_right (Nat.le_of_lt hki)
  unfold stG at hg ⊢
  rcases Nat.eq_zero_or_pos (i / h - k / h) with z | z
  · rw [z, Nat.gcd_zero_left] at hg ⊢
    omega
  · have := Nat.le_of_dvd z (Nat.gcd_dvd_left (i / h - k / h) (((i % h : Nat) : Int) - ((k % h : Nat) : Int)).natAbs)
    have q : i / h < w := by omega
    omega
/-- threes in a line, by the steps of the outer pegs -/
def inlN (w h : Nat) : Int := sm (fun s => if 2 ≤ s then ((s : Int) - 1) * ctN w h s else 0) (max w h)
theorem pairs_ct {w h s : Nat} (hs : 1 ≤ s) : sm (fun i => sm (fun k => if stI2 h i k = (s : Int) then (1 : Int) else 0) i) (w * h) = ctN w h s := by
  have e1 := pr_ct (w := w) (h := h) (st := (s : Int)) (by omega)
  have e2 := sm_sq (fun i k => if stI2 h i k = (s : Int) then (1 : Int) else 0) (w * h)
  have e3 : prN w h s = sm (fun i => sm (fun k => if stI2 h i k = (s : Int) then (1 : Int) else 0) (w * h)) (w * h) := rfl
  have e4 : sm (fun i => if stI2 h i i = (s : Int) then (1 : Int) else 0) (w * h) = 0 := by
    rw [show sm (fun i => if stI2 h i i = (s : Int) then (1 : Int) else 0) (w * h) = sm (fun _ => 0) (w * h) from sm_congr fun i _ => if_neg (by
      have : stI2 h i i = 0 := by unfold stI2 stepN; simp
      omega), sm_zero]
  have e5 : sm (fun k => sm (fun m => (if stI2 h k m = (s : Int) then (1 : Int) else 0) + if stI2 h m k = (s : Int) then (1 : Int) else 0) k) (w * h) = 2 * sm (fun i => sm (fun k => if stI2 h i k = (s : Int) then (1 : Int) else 0) i) (w * h) := by
    rw [← sm_mul]
    refine sm_congr fun k _ => ?_
    rw [← sm_mul]
    exact sm_congr fun m _ => by rw [stI2_comm h m k]; omega
  rw [e3, e2, e4, e5, Int.add_zero] at e1
  omega
theorem inl_eq {w h : Nat} (hh : 0 < h) : arN (bX h) (t3A (w * h)) 0 = inlN w h := by
  rw [← ar_sum]
  have e1 : sm (fun i => sm (fun j => sm (wQ (bX h) 0 i j) j) i) (w * h) = sm (fun i => sm (fun k => stI2 h i k - 1) i) (w * h) := by
    refine sm_congr fun i hi => ?_
    have q := sm_tri (fun j k => wQ (bX h) 0 i j k) i
    refine q.trans (sm_congr fun k hk => ?_)
    rw [stI2_G hk]
    refine Eq.trans (sm_congr fun d hd => ?_) (line_count hh hk)
    unfold wQ szQ szT bX
    simp only [decide_eq_true_eq]
    by_cases z : twI ((i / h : Nat) : Int) ((i % h : Nat) : Int) (((k + 1 + d) / h : Nat) : Int) (((k + 1 + d) % h : Nat) : Int) ((k / h : Nat) : Int) ((k % h : Nat) : Int) = 0
    · rw [if_pos z, if_pos (by rw [z]; rfl)]
    · rw [if_neg z, if_neg (by omega)]
  rw [e1]
  have e2 : sm (fun i => sm (fun k => stI2 h i k - 1) i) (w * h) = sm (fun i => sm (fun k => sm (fun s => if 2 ≤ s then ((s : Int) - 1) * (if stI2 h i k = (s : Int) then 1 else 0) else 0) (max w h)) i) (w * h) := by
    refine sm_congr fun i hi => sm_congr fun k hk => ?_
    obtain ⟨g1, g2⟩ := stG_bd hh hk hi
    rw [stI2_G hk]
    have p := sm_pick (fun s => if 2 ≤ s then ((s : Int) - 1) else 0) g2
    have e3 : sm (fun s => if 2 ≤ s then ((s : Int) - 1) * (if ((stG h i k : Nat) : Int) = (s : Int) then 1 else 0) else 0) (max w h) = sm (fun s => if stG h i k = s then (if 2 ≤ s then ((s : Int) - 1) else 0) else 0) (max w h) := by
      refine sm_congr fun s _ => ?_
      by_cases a : 2 ≤ s
      · rw [if_pos a]
        by_cases b : stG h i k = s
        · rw [if_pos (by omega), if_pos b, if_pos a, Int.mul_one]
        · rw [if_neg (by omega), if_neg b, Int.mul_zero]
      · rw [if_neg a, if_neg a]
        split <;> rfl
    rw [e3, p]
    split <;> omega
  rw [e2]
  have e4 : ∀ i, sm (fun k => sm (fun s => if 2 ≤ s then ((s : Int) - 1) * (if stI2 h i k = (s : Int) then 1 else 0) else 0) (max w h)) i = sm (fun s => sm (fun k => if 2 ≤ s then ((s : Int) - 1) * (if stI2 h i k = (s : Int) then 1 else 0) else 0) i) (max w h) := fun i => sm_swap _ _ _
  rw [show sm (fun i => sm (fun k => sm (fun s => if 2 ≤ s then ((s : Int) - 1) * (if stI2 h i k = (s : Int) then 1 else 0) else 0) (max w h)) i) (w * h) = sm (fun i => sm (fun s => sm (fun k => if 2 ≤ s then ((s : Int) - 1) * (if stI2 h i k = (s : Int) then 1 else 0) else 0) i) (max w h)) (w * h) from sm_congr fun i _ => e4 i]
  rw [sm_swap]
  unfold inlN
  refine sm_congr fun s _ => ?_
  by_cases a : 2 ≤ s
  · rw [if_pos a, ← pairs_ct (w := w) (h := h) (show 1 ≤ s by omega), ← sm_mul]
    refine sm_congr fun i _ => ?_
    rw [← sm_mul]
    exact sm_congr fun k _ => if_pos a
  · rw [if_neg a]
    rw [show sm (fun i => sm (fun k => if 2 ≤ s then ((s : Int) - 1) * (if stI2 h i k = (s : Int) then 1 else 0) else 0) i) (w * h) = sm (fun _ => 0) (w * h) from sm_congr fun i _ => by
      rw [show sm (fun k => if 2 ≤ s then ((s : Int) - 1) * (if stI2 h i k = (s : Int) then 1 else 0) else 0) i = sm (fun _ => 0) i from sm_congr fun k _ => if_neg a, sm_zero], sm_zero]
theorem inl_step {w h s : Nat} (h1 : w ≤ 12) (h2 : h ≤ 12) (hs : s ≤ 12) : 0 ≤ (if 2 ≤ s then ((s : Int) - 1) * ctN w h s else 0) ∧ (if 2 ≤ s then ((s : Int) - 1) * ctN w h s else 0) ≤ 500000 := by
  have b : 0 ≤ ctN w h s ∧ ctN w h s ≤ 41472 := ctS_bd (s : Int) h1 h2 (Nat.le_refl _)
  split
  · have m0 := Int.mul_nonneg (show 0 ≤ (s : Int) - 1 by omega) b.1
    have m1 := mul_bd (x := (s : Int) - 1) (y := ctN w h s) (m := 11) (n := 41472) (by omega) (by omega) (by omega) (by omega)
    omega
  · omega
theorem inl_bd {w h k : Nat} (h1 : w ≤ 12) (h2 : h ≤ 12) (hk : k ≤ 12) : 0 ≤ sm (fun s => if 2 ≤ s then ((s : Int) - 1) * ctN w h s else 0) k ∧ sm (fun s => if 2 ≤ s then ((s : Int) - 1) * ctN w h s else 0) k ≤ 6000000 := by
  have := sm_bd (f := fun s : Nat => if 2 ≤ s then ((s : Int) - 1) * ctN w h s else 0) (c := 500000) (n := k) (fun i hi => inl_step h1 h2 (by omega))
  omega
end Go.Proofs.Ytmhdbodmpohdnaa
/- contracts: pairs with so many steps, both sides -/
namespace Go.Proofs.Ytmhdbodmpohdnaa
open Go.ChangeShapes Go.WideShapes Go.ChangeAt Go.RowKit Go.Joins
set_option linter.unusedVariables false
set_option linter.unusedSimpArgs false
set_option maxRecDepth 4000
set_option maxHeartbeats 4000000 in
theorem ctSteps_any (nw nh : Nat) (st : Int) (w : World) (h1 : nw ≤ 12) (h2 : nh ≤ 12) :
    Calls Try.prog 48 #[.int .i64 nw, .int .i64 nh, .int .i64 st] w fun e w' => e = .returned (.int .i64 (ctN nw nh st)) ∧ Below w.heap.size w w' := by
  have KG : Hid (∀ (x y : Nat) W, x < nw → y < nh → Calls Try.prog 60 #[.int .i64 (x : Int), .int .i64 (y : Int)] W fun e w' => e = .returned (.int .i64 (gcI x y)) ∧ Below W.heap.size W w') :=
    Lib.hid (fun x y W hx hy => pgCommon_any (x : Int) (y : Int) W (by omega) (by omega) (by omega) (by omega))
  have HF : Hid (∀ x y, ctF nw nh st x y = if gcI x y = st then ((nw : Int) - (x : Int)) * ((nh : Int) - (y : Int)) * (if 0 < x ∧ 0 < y then 2 else 1) else 0) := Lib.hid (fun x y => rfl)
  have HP : Hid (∀ x y, x < nw → y < nh → 0 ≤ ((nw : Int) - (x : Int)) * ((nh : Int) - (y : Int)) ∧ ((nw : Int) - (x : Int)) * ((nh : Int) - (y : Int)) ≤ 144) := Lib.hid (fun x y hx hy => (plF_bd h1 h2 hx hy).1)
  have HR : Hid (∀ x k, x < nw → k ≤ nh → 0 ≤ sm (ctF nw nh st x) k ∧ sm (ctF nw nh st x) k ≤ 3456) := Lib.hid (fun x k hx hk => ctR_bd st h1 h2 hx hk)
  have HS : Hid (∀ k, k ≤ nw → 0 ≤ sm (fun x => sm (ctF nw nh st x) nh) k ∧ sm (fun x => sm (ctF nw nh st x) nh) k ≤ 41472) := Lib.hid (fun k hk => ctS_bd st h1 h2 hk)
  have HS1 : Hid (∀ k, sm (fun x => sm (ctF nw nh st x) nh) (k + 1) = sm (fun x => sm (ctF nw nh st x) nh) k + sm (ctF nw nh st k) nh) := Lib.hid (fun k => rfl)
  have HR1 : Hid (∀ x k, sm (ctF nw nh st x) (k + 1) = sm (ctF nw nh st x) k + ctF nw nh st x k) := Lib.hid (fun x k => rfl)
  have HR0 : Hid (∀ x, sm (ctF nw nh st x) 0 = 0) := Lib.hid (fun x => rfl)
  have HS0 : Hid (sm (fun x => sm (ctF nw nh st x) nh) 0 = 0) := Lib.hid rfl
  unfold ctN
  generalize sm (fun x => sm (ctF nw nh st x) nh) = S at *
  obtain ⟨R, hR⟩ : ∃ R : Nat → Nat → Int, R = fun x k => sm (ctF nw nh st x) k := ⟨_, rfl⟩
  have eR : ∀ x k, sm (ctF nw nh st x) k = R x k := fun x k => by rw [hR]
  simp only [eR] at HR HS1 HR1 HR0
  generalize ctF nw nh st = G at *
  clear hR eR
  go_enter Try.func48, Try.ntmps48
  go_wp2_with fail
  go_loopg [7, 8] nw (fun g s x wr => ∃ i : Nat, i ≤ nw ∧ g = nw - i ∧ x = .int .i64 i ∧ s = .int .i64 (S i) ∧ Below w.heap.size w wr)
  case atStart => exact ⟨0, Nat.zero_le _, rfl, rfl, by rw [HS0.out], Below.refl _ _⟩
  case round =>
    obtain ⟨i, hi, hg, rfl, rfl, hB⟩ := hrel
    rename World => wo
    have HGK := Lib.hid hg
    clear hg
    obtain ⟨s1, s2⟩ := HS.out i hi
    by_cases hlt : i < nw
    · have HSi := Lib.hid (HS1.out i)
      have HRi := Lib.hid (fun k hk => HR.out i k hlt hk)
      have HRi0 := Lib.hid (HR0.out i)
      have HRi1 := Lib.hid (HR1.out i)
      have KGi := Lib.hid (fun y W hy => KG.out i y W hlt hy)
      have HPi := Lib.hid (fun y hy => HP.out i y hlt hy)
      have HFi := Lib.hid (HF.out i)
      generalize S i = t0 at *
      generalize R i = Ri at *
      generalize G i = Gi at *
      go_wp2_with fail
      go_loopg [7, 9] nh (fun g s y wr => ∃ j : Nat, j ≤ nh ∧ g = nh - j ∧ y = .int .i64 j ∧ s = .int .i64 (t0 + Ri j) ∧ Below w.heap.size w wr)
      case atStart => exact ⟨0, Nat.zero_le _, rfl, rfl, by rw [HRi0.out, Int.add_zero], hB⟩
      case round =>
        clear hB
        obtain ⟨j, hj, hg, rfl, rfl, hB⟩ := hrel
        rename World => wi
        have HGJ := Lib.hid hg
        clear hg
        obtain ⟨r1, r2⟩ := HRi.out j hj
        by_cases hlj : j < nh
        · obtain ⟨p1, p2⟩ := HPi.out j hlj
          have HF1 := Lib.hid ((HRi1.out j).trans (by rw [HFi.out j]))
          have KGj := Lib.hid (fun W => KGi.out j W hlj)
          generalize Ri j = t1 at *
          generalize gcI i j = gg at *
          go_wp2_with fail
          refine (KGj.out wi).mono ?_; rintro e w4 ⟨rfl, hb4⟩
          have B4 := hB.trans (hb4.mono hB.size)
          clear hb4 hB KGj
          by_cases hs : gg = st
          · have HK1 := Lib.hid (HF1.out.trans (by rw [if_pos hs]))
            subst hs
            clear HF1
            by_cases hi0 : 0 < i
            · by_cases hj0 : 0 < j
              · have HK2 := Lib.hid (HK1.out.trans (by rw [if_pos ⟨hi0, hj0⟩]))
                clear HK1
                go_wp2_with fail
                go_roundg (nh - (j + 1))
                case measure => have := HGJ.out; omega
                case rel => exact ⟨j + 1, by omega, rfl, by go_num, by rw [HK2.out, Int.add_assoc], B4⟩
              · have HK2 := Lib.hid (HK1.out.trans (by rw [if_neg (by omega), Int.mul_one]))
                clear HK1
                go_wp2_with fail
                go_roundg (nh - (j + 1))
                case measure => have := HGJ.out; omega
                case rel => exact ⟨j + 1, by omega, rfl, by go_num, by rw [HK2.out, Int.add_assoc], B4⟩
            · have HK2 := Lib.hid (HK1.out.trans (by rw [if_neg (by omega), Int.mul_one]))
              clear HK1
              go_wp2_with fail
              go_roundg (nh - (j + 1))
              case measure => have := HGJ.out; omega
              case rel => exact ⟨j + 1, by omega, rfl, by go_num, by rw [HK2.out, Int.add_assoc], B4⟩
          · have HK1 := Lib.hid (HF1.out.trans (by rw [if_neg hs, Int.add_zero]))
            clear HF1
            go_wp2_with fail
            go_roundg (nh - (j + 1))
            case measure => have := HGJ.out; omega
            case rel => exact ⟨j + 1, by omega, rfl, by go_num, by rw [HK1.out], B4⟩
        · obtain rfl : j = nh := by omega
          go_wp2_with fail
          go_roundg (nw - (i + 1))
          case measure => have := HGK.out; omega
          case rel => exact ⟨i + 1, by omega, rfl, by go_num, by rw [HSi.out], hB⟩
    · obtain rfl : i = nw := by omega
      go_wp2_with fail
      go_ret
      exact ⟨rfl, hB⟩
end Go.Proofs.Ytmhdbodmpohdnaa
/- contracts: CountInLine, both sides -/
namespace Go.Proofs.Ytmhdbodmpohdnaa
open Go.ChangeShapes Go.WideShapes Go.ChangeAt Go.RowKit Go.Joins
set_option linter.unusedVariables false
set_option linter.unusedSimpArgs false
set_option maxRecDepth 4000
def inlV (w h : Int) : Int := inlN w.toNat h.toNat
set_option maxHeartbeats 4000000 in
theorem ctInLine_any (nw nh : Nat) (W : World) (h1 : nw ≤ 12) (h2 : nh ≤ 12) (h3 : 1 ≤ nw) (h4 : 1 ≤ nh) :
    Calls Try.prog 62 #[.int .i64 nw, .int .i64 nh] W fun e w' => e = .returned (.int .i64 (inlN nw nh)) ∧ Below W.heap.size W w' := by
  have KM := Lib.hid (fun W => l1Most_any nw nh W)
  have KC : Hid (∀ (s : Nat) W, Calls Try.prog 48 #[.int .i64 (nw : Int), .int .i64 (nh : Int), .int .i64 (s : Int)] W fun e w' => e = .returned (.int .i64 (ctN nw nh s)) ∧ Below W.heap.size W w') := Lib.hid (fun s W => ctSteps_any nw nh s W h1 h2)
  have hM : ((max nw nh : Nat) : Int) = max (nw : Int) (nh : Int) := by omega
  have hM1 : 1 ≤ max nw nh := by omega
  have hM2 : max nw nh ≤ 12 := by omega
  have HB := Lib.hid (fun k (hk : k ≤ 12) => inl_bd (w := nw) (h := nh) (k := k) h1 h2 hk)
  have HN : Hid (∀ k : Nat, 2 ≤ k → sm (fun s => if 2 ≤ s then ((s : Int) - 1) * ctN nw nh s else 0) (k + 1) = sm (fun s => if 2 ≤ s then ((s : Int) - 1) * ctN nw nh s else 0) k + ((k : Int) - 1) * ctN nw nh k) := Lib.hid (fun k hk => by rw [sm_succ, if_pos hk])
  have H2 : Hid (sm (fun s => if 2 ≤ s then ((s : Int) - 1) * ctN nw nh s else 0) 2 = 0) := Lib.hid (by simp [sm])
  have H1 : Hid (sm (fun s => if 2 ≤ s then ((s : Int) - 1) * ctN nw nh s else 0) 1 = 0) := Lib.hid (by simp [sm])
  have HP : Hid (∀ k : Nat, k ≤ 12 → 2 ≤ k → 0 ≤ ((k : Int) - 1) * ctN nw nh k ∧ ((k : Int) - 1) * ctN nw nh k ≤ 500000) := Lib.hid (fun k hk h => by
    have := inl_step (w := nw) (h := nh) (s := k) h1 h2 hk
    rw [if_pos h] at this
    exact this)
  have HC : Hid (∀ k : Nat, 0 ≤ ctN nw nh k ∧ ctN nw nh k ≤ 41472) := Lib.hid (fun k => ctS_bd (k : Int) h1 h2 (Nat.le_refl _))
  unfold inlN
  generalize sm (fun s => if 2 ≤ s then ((s : Int) - 1) * ctN nw nh s else 0) = S at *
  rw [← hM] at KM
  generalize max nw nh = M at *
  have eC : ∃ C : Nat → Int, C = fun (k : Nat) => ctN nw nh ((k : Nat) : Int) := ⟨_, rfl⟩
  obtain ⟨C, hC⟩ := eC
  have eC : ∀ k : Nat, ctN nw nh (k : Int) = C k := fun k => by rw [hC]
  simp only [eC] at KC HN HP HC
  clear hC eC hM
  go_enter Try.func62, Try.ntmps62
  go_wp2_with fail
  go_loopg [5, 6] 14 (fun g n s wr => ∃ k : Nat, 2 ≤ k ∧ (k ≤ M ∨ k = 2) ∧ g + k = 16 ∧ s = .int .i64 k ∧ n = .int .i64 (S k) ∧ Below W.heap.size W wr)
  case atStart => exact ⟨2, Nat.le_refl _, .inr rfl, rfl, rfl, by rw [H2.out], Below.refl _ _⟩
  case round =>
    obtain ⟨k, hk1, hk, hg, rfl, rfl, hB⟩ := hrel
    rename World => wo
    have HGK := Lib.hid hg
    clear hg
    have hk12 : k ≤ 12 := by omega
    obtain ⟨s1, s2⟩ := HB.out k hk12
    by_cases hlt : k < M
    · have HNk := Lib.hid (HN.out k hk1)
      obtain ⟨p1, p2⟩ := HP.out k hk12 hk1
      obtain ⟨c1, c2⟩ := HC.out k
      have KCk := Lib.hid (fun W => KC.out k W)
      generalize S k = t at *
      generalize C k = cc at *
      go_wp2_with fail
      refine (KM.out _).mono ?_; rintro e _ ⟨rfl, rfl⟩
      go_wp2_with fail
      refine (KCk.out _).mono ?_; rintro e w3 ⟨rfl, hb3⟩
      have B3 := hB.trans (hb3.mono hB.size)
      clear hb3 hB
      go_wp2_with fail
      go_roundg (16 - (k + 1))
      case measure => have := HGK.out; omega
      case rel => exact ⟨k + 1, by omega, .inl (by omega), by have := HGK.out; omega, by go_num, by rw [HNk.out], B3⟩
    · have eS : Hid (S k = S M) := Lib.hid (by
        rcases hk with h | h
        · rw [show k = M by omega]
        · rcases (show M = 1 ∨ M = 2 by omega) with q | q
          · rw [q, h, H1.out, H2.out]
          · rw [q, h])
      go_wp2_with fail
      refine (KM.out _).mono ?_; rintro e _ ⟨rfl, rfl⟩
      go_wp2_with fail
      go_ret
      exact ⟨ret_int eS.out, hB⟩
set_option maxHeartbeats 2000000 in
theorem specCountInLine_any (w h : Int) (W : World) :
    Calls Try.prog 38 #[.int .i64 w, .int .i64 h] W fun e w' => e = .returned (.tuple #[.int .i64 (bdV (bdB 12 w h) (inlV w h)), .bool (bdB 12 w h)]) ∧ Below W.heap.size W w' := by
  have K := Lib.hid (ctBoard_any w h 12 W)
  by_cases hg : bdB 12 w h = true
  · obtain ⟨h1, h2, h3, h4⟩ := bdB_true hg
    have KC := Lib.hid (fun W => ctInLine_any w.toNat h.toNat W (by omega) (by omega) (by omega) (by omega))
    rw [show ((w.toNat : Nat) : Int) = w by omega, show ((h.toNat : Nat) : Int) = h by omega] at KC
    rw [hg] at K ⊢
    rw [bdV_t]
    unfold inlV
    generalize inlN w.toNat h.toNat = v at *
    clear hg
    go_enter Try.func38, Try.ntmps38
    go_wp2_with fail
    refine K.out.mono ?_; rintro e w1 ⟨rfl, hb1⟩
    go_wp2_with fail
    refine (KC.out w1).mono ?_; rintro e w2 ⟨rfl, hb2⟩
    go_wp2_with fail
    go_ret2
    exact ⟨rfl, hb1.trans (hb2.mono hb1.size)⟩
  · have hf : bdB 12 w h = false := by simpa using hg
    rw [hf] at K ⊢
    rw [bdV_f]
    clear hg hf
    go_enter Try.func38, Try.ntmps38
    go_wp2_with fail
    refine K.out.mono ?_; rintro e w1 ⟨rfl, hb1⟩
    go_wp2_with fail
    go_ret2
    exact ⟨rfl, hb1⟩
set_option maxHeartbeats 4000000 in
theorem implCountInLine_any (w h : Int) (W : World) :
    Calls Try.prog 39 #[.int .i64 w, .int .i64 h] W fun e w' => e = .returned (.tuple #[.int .i64 (bdV (bdB 12 w h) (inlV w h)), .bool (bdB 12 w h)]) ∧ Below W.heap.size W w' := by
  by_cases hg : bdB 12 w h = true
  · have K := Lib.hid (fun W => boardUpTo_t 12 w h W hg)
    obtain ⟨h1, h2, h3, h4⟩ := bdB_true hg
    rw [hg, bdV_t]
    have nw : w.toNat ≤ 12 := by omega
    have nh : h.toNat ≤ 12 := by omega
    have KT := Lib.hid (fun W => takerOf_any w.toNat h.toNat W nw nh)
    rw [show ((w.toNat : Nat) : Int) = w by omega, show ((h.toNat : Nat) : Int) = h by omega] at KT
    have hgb := ar_bd (bd_mul nw nh) (bX h.toNat) 0
    have HGB := Lib.hid hgb
    have HV : Hid (arN (bX h.toNat) (t3A (w.toNat * h.toNat)) 0 = inlV w h) := Lib.hid (inl_eq (by omega))
    generalize inlV w h = V at *
    generalize arN (bX h.toNat) (t3A (w.toNat * h.toNat)) = g at *
    clear hg nw nh hgb
    go_enter Try.func39, Try.ntmps39
    go_wp2_with fail
    refine (K.out W).mono ?_; rintro e w1 ⟨rfl, hb1⟩
    go_wp2_with fail
    obtain ⟨W2, hW2⟩ : ∃ W2, W2 = (w1.alloc (.cells #[.int .i64 w, .int .i64 h] 34)) := ⟨_, rfl⟩
    rw [← hW2]
    have yW20_0 : W2.cell? ⟨w1.heap.size, 0, none⟩ = some (.int .i64 w) := by rw [hW2]; go_simp
    have yW20_1 : W2.cell? ⟨w1.heap.size, 1, none⟩ = some (.int .i64 h) := by rw [hW2]; go_simp
    have fW20 : ∀ o, W2.frozen? ⟨w1.heap.size, o, none⟩ = false := by intro o; rw [hW2]; (repeat rw [frozen?_alloc_cells]); simp [World.frozen?]
    have zW20 : w1.heap.size < W2.heap.size := by rw [hW2]; simp <;> omega
    have BW2 : Below w1.heap.size w1 W2 := by rw [hW2]; exact (Below.alloc (Below.refl _ _) (by simp <;> omega) _)
    have eW2 : Hid (W2.heap.size = w1.heap.size + 1) := Lib.hid (by rw [hW2]; simp)
    clear hW2
    have B2 := hb1.trans (BW2.mono hb1.size)
    refine (KT.out W2).mono ?_; rintro e w3 ⟨bx, bm, n, rfl, hb3, q1, q2, q3, q4, q5⟩
    have B3 := B2.trans (hb3.mono B2.size)
    have z3 := B2.size
    have HM := Lib.hid q5
    have zx : bx < w3.heap.size := by
      obtain ⟨o, ho, _⟩ := cells_of_cell q3
      exact (Array.getElem?_eq_some_iff.1 ho).1
    clear hb3 hb1 B2 KT K yW20_0 yW20_1 fW20 zW20 eW2 BW2 q5
    have cx := ((bcell (Below.alloc (Below.refl w3.heap.size w3) (Nat.le_refl _) (.cells #[.int .i64 0] 3))).1 _ 0 zx).trans q3
    have ms := HM.out.below (Below.alloc (Below.refl w3.heap.size w3) (Nat.le_refl _) (.cells #[.int .i64 0] 3))
    have KK := Lib.hid (take1_any bx bm n w3.heap.size 0 g (w3.alloc (.cells #[.int .i64 0] 3)) cx ms (by go_simp) (by omega) HGB.out)
    have B4 := Below.alloc B3 B3.size (.cells #[.int .i64 0] 3)
    clear cx ms
    go_wp2_with fail
    refine KK.out.mono ?_; rintro e w5 ⟨rfl, hgr, _⟩
    have B5 := B4.grown hgr B4.size (fun k e => by cases e; omega)
    clear hgr B4 B3
    go_wp2_with fail
    go_ret2
    exact ⟨by rw [HV.out]; rfl, B5⟩
  · have hf : bdB 12 w h = false := by simpa using hg
    have K := Lib.hid (boardUpTo_f 12 w h W hf)
    rw [hf, bdV_f]
    clear hg hf
    go_enter Try.func39, Try.ntmps39
    go_wp2_with fail
    refine K.out.mono ?_; rintro e w1 ⟨rfl, hb1⟩
    have BA := Below.alloc hb1 hb1.size (.cells #[.int .i64 0, .int .i64 0] 34)
    go_wp2_with fail
    go_ret2
    exact ⟨rfl, BA⟩
end Go.Proofs.Ytmhdbodmpohdnaa

