/- joined: Ov Oz -/
import Derived.Test.YtmhdbodmpohdnaaZCountOfArea2
/- plain: right angles counted at each corner, and in each three -/
namespace Go.Proofs.Ytmhdbodmpohdnaa
open Go.ChangeShapes Go.WideShapes Go.ChangeAt Go.RowKit Go.Joins
set_option linter.unusedVariables false
set_option linter.unusedSimpArgs false
set_option maxRecDepth 4000
theorem sq_split (A : Nat → Nat → Int) : ∀ N : Nat, sm (fun i => sm (fun k => if i = k then 0 else A i k) N) N = sm (fun k => sm (fun m => A k m + A m k) k) N
  | 0 => rfl
  | N + 1 => by
    rw [sm_succ, sm_succ (fun k => sm (fun m => A k m + A m k) k)]
    have e1 : sm (fun i => sm (fun k => if i = k then 0 else A i k) (N + 1)) N = sm (fun i => sm (fun k => if i = k then 0 else A i k) N) N + sm (fun i => A i N) N := by
      rw [← sm_add]
      exact sm_congr fun i hi => by rw [sm_succ, if_neg (by omega)]
    have e2 : sm (fun k => if N = k then 0 else A N k) (N + 1) = sm (fun k => A N k) N := by
      rw [sm_succ, if_pos rfl, Int.add_zero]
      exact sm_congr fun k hk => if_neg (by omega)
    rw [e1, e2, sq_split A N, sm_add]
    have e4 : sm (fun k => A N k) N = sm (A N) N := rfl
    omega
theorem tri_split (G : Nat → Nat → Nat → Int) : ∀ N : Nat, sm (fun i => sm (fun j => sm (fun k => if i ≠ j ∧ i ≠ k then G i j k else 0) j) N) N = sm (fun i => sm (fun k => sm (fun m => G i k m + G k i m + G m i k) k) i) N
  | 0 => rfl
  | N + 1 => by
    rw [sm_succ, sm_succ (fun i => sm (fun k => sm (fun m => G i k m + G k i m + G m i k) k) i)]
    have e1 : sm (fun i => sm (fun j => sm (fun k => if i ≠ j ∧ i ≠ k then G i j k else 0) j) (N + 1)) N = sm (fun i => sm (fun j => sm (fun k => if i ≠ j ∧ i ≠ k then G i j k else 0) j) N) N + sm (fun i => sm (fun k => if i = k then 0 else G i N k) N) N := by
      rw [← sm_add]
      exact sm_congr fun i hi => by
        rw [sm_succ]
        congr 1
        exact sm_congr fun k hk => by
          by_cases h : i = k
          · rw [if_neg (by omega), if_pos h]
          · rw [if_pos (by omega), if_neg h]
    have e2 : sm (fun j => sm (fun k => if N ≠ j ∧ N ≠ k then G N j k else 0) j) (N + 1) = sm (fun j => sm (fun k => G N j k) j) N := by
      rw [sm_succ]
      have z : sm (fun k => if N ≠ N ∧ N ≠ k then G N N k else 0) N = 0 := by
        rw [show (fun k => if N ≠ N ∧ N ≠ k then G N N k else 0) = (fun _ : Nat => (0 : Int)) from funext fun k => if_neg (by omega), sm_zero]
      rw [z, Int.add_zero]
      exact sm_congr fun j hj => sm_congr fun k hk => if_pos (by omega)
    rw [e1, e2, tri_split G N, sq_split (fun i k => G i N k) N]
    have e3 : sm (fun k => sm (fun m => G N k m + G k N m + G m N k) k) N = sm (fun k => sm (fun m => G N k m) k) N + sm (fun k => sm (fun m => G k N m + G m N k) k) N := by
      rw [← sm_add]
      exact sm_congr fun k hk => by
        rw [← sm_add]
        exact sm_congr fun m hm => by omega
    rw [e3]
    omega
def dotI (a b c : Int × Int) : Int := (b.1 - a.1) * (c.1 - a.1) + (b.2 - a.2) * (c.2 - a.2)
def dI (a b c : Int × Int) : Int := if dotI a b c = 0 then 1 else 0
theorem sq_dot (a b c : Int × Int) : sqP c a + sqP a b - sqP b c = 2 * dotI a b c := by unfold sqP sqI dotI; grind
theorem sqP_comm (a b : Int × Int) : sqP a b = sqP b a := by unfold sqP sqI; grind
theorem dot_two (a b c : Int × Int) : dotI a b c + dotI b a c = sqP a b := by unfold sqP sqI dotI; grind
theorem sqP_pos {a b : Int × Int} (h : a ≠ b) : 0 < sqP a b := by
  unfold sqP sqI
  have h1 : ∀ x : Int, 0 ≤ x * x := fun x => by
    rcases Int.le_total 0 x with g | g
    · exact Int.mul_nonneg g g
    · have := Int.mul_nonneg (show 0 ≤ -x by omega) (show 0 ≤ -x by omega)
      rwa [Int.neg_mul_neg] at this
  have h2 : ∀ x : Int, x ≠ 0 → 0 < x * x := fun x hx => by
    have := h1 x
    have : x * x ≠ 0 := fun e => by rcases Int.mul_eq_zero.1 e with g | g <;> exact hx g
    omega
  by_cases g : a.1 - b.1 = 0
  · have g2 : a.2 - b.2 ≠ 0 := fun e => h (Prod.ext (by omega) (by omega))
    have := h2 _ g2
    have := h1 (a.1 - b.1)
    omega
  · have := h2 _ g
    have := h1 (a.2 - b.2)
    omega
theorem rc_sum {a b c : Int × Int} (h1 : a ≠ b) (h2 : a ≠ c) (h3 : b ≠ c) : (if rcB a b c = true then (1 : Int) else 0) = dI a b c + dI b a c + dI c a b := by
  have e1 := sq_dot a b c
  have e2 := sq_dot b a c
  have e3 := sq_dot c a b
  have c1 := sqP_comm a b
  have c2 := sqP_comm a c
  have c3 := sqP_comm b c
  have t1 := dot_two a b c
  have t2 := dot_two a c b
  have t3 := dot_two b c a
  have p1 := sqP_pos h1
  have p2 := sqP_pos h2
  have p3 := sqP_pos h3
  have s1 : dotI a c b = dotI a b c := by unfold dotI; grind
  have s2 : dotI b c a = dotI b a c := by unfold dotI; grind
  have s3 : dotI c b a = dotI c a b := by unfold dotI; grind
  unfold rcB dI
  simp only [Bool.or_eq_true, decide_eq_true_eq]
  generalize dotI a b c = x at *
  generalize dotI b a c = y at *
  generalize dotI c a b = z at *
  by_cases g1 : x = 0
  · rw [if_pos (by omega), if_pos g1, if_neg (by omega), if_neg (by omega)]; rfl
  · by_cases g2 : y = 0
    · rw [if_pos (by omega), if_neg g1, if_pos g2, if_neg (by omega)]; rfl
    · by_cases g3 : z = 0
      · rw [if_pos (by omega), if_neg g1, if_neg g2, if_pos g3]; rfl
      · rw [if_neg (by omega), if_neg g1, if_neg g2, if_neg g3]; rfl
theorem cnt3_app (g : Nat × Nat × Nat → Bool) (L M : List (Nat × Nat × Nat)) : cnt3 g (L ++ M) = cnt3 g L + cnt3 g M := by unfold cnt3; rw [List.filter_append, List.length_append]
theorem cnt3_I (g : Nat × Nat × Nat → Bool) (i k : Nat) : ∀ m, ((cnt3 g (t3I i k m) : Nat) : Int) = sm (fun j => if g (i, k, j) = true then 1 else 0) m
  | 0 => rfl
  | m + 1 => by
    rw [t3I_succ, cnt3_snoc, sm_succ, ← cnt3_I g i k m]
    split <;> simp
theorem cnt3_M (g : Nat × Nat × Nat → Bool) (i : Nat) : ∀ k, ((cnt3 g (t3M i k) : Nat) : Int) = sm (fun k => sm (fun j => if g (i, k, j) = true then 1 else 0) k) k
  | 0 => rfl
  | k + 1 => by
    rw [t3M, cnt3_app, sm_succ, ← cnt3_M g i k, ← cnt3_I]
    push_cast
    rfl
theorem cnt3_A (g : Nat × Nat × Nat → Bool) : ∀ N, ((cnt3 g (t3A N) : Nat) : Int) = sm (fun i => sm (fun k => sm (fun j => if g (i, k, j) = true then 1 else 0) k) i) N
  | 0 => rfl
  | N + 1 => by
    rw [t3A, cnt3_app, sm_succ, ← cnt3_A g N, ← cnt3_M]
    push_cast
    rfl
/-- a right angle at i, seen at j and k -/
def rH (f : Nat → Int × Int) (i j k : Nat) : Int := if f i ≠ f j ∧ f i ≠ f k ∧ dotI (f i) (f j) (f k) = 0 then 1 else 0
def rtS (f : Nat → Int × Int) (N : Nat) : Int := sm (fun i => sm (fun j => sm (rH f i j) j) N) N
theorem bX_inj {h i k : Nat} (e : bX h i = bX h k) : i = k := by
  unfold bX at e
  injection e with e1 e2
  have q1 := Nat.div_add_mod i h
  have q2 := Nat.div_add_mod k h
  have r1 : i / h = k / h := by omega
  have r2 : i % h = k % h := by omega
  rw [r1, r2] at q1
  omega
theorem rt_eq (h N : Nat) : rtS (bX h) N = ((cnt3 (rgT (bX h)) (t3A N) : Nat) : Int) := by
  rw [cnt3_A]
  have e1 : rtS (bX h) N = sm (fun i => sm (fun j => sm (fun k => if i ≠ j ∧ i ≠ k then dI (bX h i) (bX h j) (bX h k) else 0) j) N) N := by
    unfold rtS
    refine sm_congr fun i _ => sm_congr fun j _ => sm_congr fun k _ => ?_
    unfold rH dI
    by_cases g : i ≠ j ∧ i ≠ k
    · rw [if_pos g]
      have n1 : bX h i ≠ bX h j := fun e => g.1 (bX_inj e)
      have n2 : bX h i ≠ bX h k := fun e => g.2 (bX_inj e)
      by_cases d : dotI (bX h i) (bX h j) (bX h k) = 0
      · rw [if_pos ⟨n1, n2, d⟩, if_pos d]
      · rw [if_neg (fun q => d q.2.2), if_neg d]
    · rw [if_neg g, if_neg]
      rintro ⟨n1, n2, _⟩
      exact g ⟨fun e => n1 (by rw [e]), fun e => n2 (by rw [e])⟩
  rw [e1, tri_split]
  refine sm_congr fun i _ => sm_congr fun k hk => sm_congr fun m hm => ?_
  unfold rgT
  exact (rc_sum (fun e => by have := bX_inj e; omega) (fun e => by have := bX_inj e; omega) (fun e => by have := bX_inj e; omega)).symm
theorem rH_bd (f : Nat → Int × Int) (i j k : Nat) : 0 ≤ rH f i j k ∧ rH f i j k ≤ 1 := by unfold rH; split <;> omega
theorem rR_bd (f : Nat → Int × Int) (i j k : Nat) (hk : k ≤ 144) : 0 ≤ sm (rH f i j) k ∧ sm (rH f i j) k ≤ 144 := by
  have := sm_bd (f := rH f i j) (c := 1) (n := k) (fun q _ => rH_bd f i j q)
  omega
theorem rQ_bd (f : Nat → Int × Int) (i j : Nat) (hj : j ≤ 144) : 0 ≤ sm (fun j => sm (rH f i j) j) j ∧ sm (fun j => sm (rH f i j) j) j ≤ 20736 := by
  have := sm_bd (f := fun j => sm (rH f i j) j) (c := 144) (n := j) (fun q hq => rR_bd f i q q (by omega))
  omega
theorem rS_bd (f : Nat → Int × Int) (N i : Nat) (hN : N ≤ 144) (hi : i ≤ 144) : 0 ≤ sm (fun i => sm (fun j => sm (rH f i j) j) N) i ∧ sm (fun i => sm (fun j => sm (rH f i j) j) N) i ≤ 2985984 := by
  have := sm_bd (f := fun i => sm (fun j => sm (rH f i j) j) N) (c := 20736) (n := i) (fun q hq => rQ_bd f q N hN)
  omega
end Go.Proofs.Ytmhdbodmpohdnaa
/- contract: threes with an area, the model; CountOfArea on both sides -/
namespace Go.Proofs.Ytmhdbodmpohdnaa
open Go.ChangeShapes Go.WideShapes Go.ChangeAt Go.RowKit Go.Joins
set_option linter.unusedVariables false
set_option linter.unusedSimpArgs false
set_option maxRecDepth 4000
theorem PtR.up' {W W' : World} {b : Nat} {x y : Int} (h : PtR W b x y) (hb : Below W.heap.size W W') : PtR W' b x y := ⟨Nat.lt_of_lt_of_le h.hi hb.size, ((bcell hb).1 _ _ h.hi).trans h.c0, ((bcell hb).1 _ _ h.hi).trans h.c1⟩
/-- has a three the area? -/
def wQ (f : Nat → Int × Int) (q : Int) (i j k : Nat) : Int := if szQ f q (i, j, k) = true then 1 else 0
theorem wQ_bd (f : Nat → Int × Int) (q : Int) (i j k : Nat) : 0 ≤ wQ f q i j k ∧ wQ f q i j k ≤ 1 := by unfold wQ; split <;> omega
theorem wR_bd (f : Nat → Int × Int) (q : Int) (i j k : Nat) (hk : k ≤ 144) : 0 ≤ sm (wQ f q i j) k ∧ sm (wQ f q i j) k ≤ 144 := by
  have := sm_bd (f := wQ f q i j) (c := 1) (n := k) (fun x _ => wQ_bd f q i j x)
  omega
theorem wS_bd (f : Nat → Int × Int) (q : Int) (i j : Nat) (hj : j ≤ 144) : 0 ≤ sm (fun j => sm (wQ f q i j) j) j ∧ sm (fun j => sm (wQ f q i j) j) j ≤ 20736 := by
  have := sm_bd (f := fun j => sm (wQ f q i j) j) (c := 144) (n := j) (fun x hx => wR_bd f q i x x (by omega))
  omega
theorem wT_bd (f : Nat → Int × Int) (q : Int) (i : Nat) (hi : i ≤ 144) : 0 ≤ sm (fun i => sm (fun j => sm (wQ f q i j) j) i) i ∧ sm (fun i => sm (fun j => sm (wQ f q i j) j) i) i ≤ 2985984 := by
  have := sm_bd (f := fun i => sm (fun j => sm (wQ f q i j) j) i) (c := 20736) (n := i) (fun x hx => wS_bd f q x x (by omega))
  omega
theorem ar_sum (f : Nat → Int × Int) (q : Int) (N : Nat) : sm (fun i => sm (fun j => sm (wQ f q i j) j) i) N = arN f (t3A N) q := (cnt3_A (szQ f q) N).symm
set_option maxRecDepth 100000 in
set_option maxHeartbeats 8000000 in
theorem specCountOfArea_t (w h q : Int) (W : World) (hg : bdB 6 w h = true) (hq : 0 ≤ q ∧ q ≤ 200) :
    Calls Try.prog 26 #[.int .i64 w, .int .i64 h, .int .i64 q] W fun e w' => e = .returned (.tuple #[.int .i64 (arN (bX h.toNat) (t3A (w.toNat * h.toNat)) q), .bool true]) ∧ Below W.heap.size W w' := by
  have K := Lib.hid (ctBoard_any w h 6 W)
  obtain ⟨h1, h2, h3, h4⟩ := bdB_true hg
  rw [hg] at K
  have KI := Lib.hid (fun W => l1In_any q 0 200 W)
  rw [decide_eq_true hq.1, decide_eq_true hq.2, Bool.and_self] at KI
  have nw : w.toNat ≤ 12 := by omega
  have nh : h.toNat ≤ 12 := by omega
  have h5 := bd_mul nw nh
  have KP := Lib.hid (fun W => ctPegs_any w.toNat h.toNat W nw nh)
  rw [show ((w.toNat : Nat) : Int) = w by omega, show ((h.toNat : Nat) : Int) = h by omega] at KP
  have HV : Hid (sm (fun i => sm (fun j => sm (wQ (bX h.toNat) q i j) j) i) (w.toNat * h.toNat) = arN (bX h.toNat) (t3A (w.toNat * h.toNat)) q) := Lib.hid (ar_sum _ _ _)
  have HBD : Hid (∀ i, i < w.toNat * h.toNat → Sz (bX h.toNat i).1 (bX h.toNat i).2) := Lib.hid (fun i hi => bX_sz nw nh hi)
  generalize arN (bX h.toNat) (t3A (w.toNat * h.toNat)) q = V at *
  generalize bX h.toNat = f at *
  generalize w.toNat * h.toNat = N at *
  have HS := Lib.hid (fun i hi => wT_bd f q i hi)
  have HQ := Lib.hid (fun i j hj => wS_bd f q i j hj)
  have HR := Lib.hid (fun i j k hk => wR_bd f q i j k hk)
  have HS1 : Hid (∀ i, sm (fun i => sm (fun j => sm (wQ f q i j) j) i) (i + 1) = sm (fun i => sm (fun j => sm (wQ f q i j) j) i) i + sm (fun j => sm (wQ f q i j) j) i) := Lib.hid (fun i => rfl)
  have HQ1 : Hid (∀ i j, sm (fun j => sm (wQ f q i j) j) (j + 1) = sm (fun j => sm (wQ f q i j) j) j + sm (wQ f q i j) j) := Lib.hid (fun i j => rfl)
  have HR1 : Hid (∀ i j k, sm (wQ f q i j) (k + 1) = sm (wQ f q i j) k + if szT f (i, j, k) = q then 1 else 0) := Lib.hid (fun i j k => by rw [sm_succ]; unfold wQ szQ; simp only [decide_eq_true_eq])
  have HS0 : Hid (sm (fun i => sm (fun j => sm (wQ f q i j) j) i) 0 = 0) := Lib.hid rfl
  have HQ0 : Hid (∀ i, sm (fun j => sm (wQ f q i j) j) 0 = 0) := Lib.hid (fun i => rfl)
  have HR0 : Hid (∀ i j, sm (wQ f q i j) 0 = 0) := Lib.hid (fun i j => rfl)
  have KTU : Hid (∀ i j k W, i < N → j < N → k < N → Calls Try.prog 51 #[.agg #[.int .i64 (f i).1, .int .i64 (f i).2], .agg #[.int .i64 (f j).1, .int .i64 (f j).2], .agg #[.int .i64 (f k).1, .int .i64 (f k).2]] W fun e w' => e = .returned (.int .i64 (twI (f i).1 (f i).2 (f j).1 (f j).2 (f k).1 (f k).2)) ∧ Below W.heap.size W w') := Lib.hid (fun i j k W hi hj hk => pgTurn_any _ _ _ _ _ _ W (HBD.out i hi) (HBD.out j hj) (HBD.out k hk))
  have HTB : Hid (∀ i j k, i < N → j < N → k < N → -80000000000 ≤ twI (f i).1 (f i).2 (f j).1 (f j).2 (f k).1 (f k).2 ∧ twI (f i).1 (f i).2 (f j).1 (f j).2 (f k).1 (f k).2 ≤ 80000000000) := Lib.hid (fun i j k hi hj hk => twI_bd (HBD.out i hi) (HBD.out j hj) (HBD.out k hk))
  have HST : Hid (∀ i j k, szT f (i, j, k) = ((twI (f i).1 (f i).2 (f j).1 (f j).2 (f k).1 (f k).2).natAbs : Int)) := Lib.hid (fun i j k => rfl)
  generalize sm (fun i => sm (fun j => sm (wQ f q i j) j) i) = S at *
  obtain ⟨Q, hQ⟩ : ∃ Q : Nat → Nat → Int, Q = fun i j => sm (fun j => sm (wQ f q i j) j) j := ⟨_, rfl⟩
  have eQ : ∀ i j, sm (fun j => sm (wQ f q i j) j) j = Q i j := fun i j => by rw [hQ]
  simp only [eQ] at HS1 HQ HQ1 HQ0
  obtain ⟨R, hR⟩ : ∃ R : Nat → Nat → Nat → Int, R = fun i j k => sm (wQ f q i j) k := ⟨_, rfl⟩
  have eR : ∀ i j k, sm (wQ f q i j) k = R i j k := fun i j k => by rw [hR]
  simp only [eR] at HQ1 HR HR1 HR0
  clear hQ eQ hR eR hg nw nh hq HBD
  have HN5 := Lib.hid h5
  go_enter Try.func26, Try.ntmps26
  go_wp2_with fail
  refine K.out.mono ?_; rintro e w1 ⟨rfl, hb1⟩
  go_wp2_with fail
  refine (KI.out _).mono ?_; rintro e _ ⟨rfl, rfl⟩
  go_wp2_with fail
  refine (KP.out w1).mono ?_; intro e w2 hret
  obtain ⟨A, c, rfl, hc1, hc2, hb2, hrd⟩ := retP_read hret
  have HC := Lib.hid hrd
  have B2 := hb1.trans (hb2.mono hb1.size)
  unfold maxLen at hc2
  clear hret hrd hb2 KP K hb1 KI
  go_wp2_with fail
  go_loopg [8, 30] N (fun g s i wr => ∃ k : Nat, k ≤ N ∧ g = N - k ∧ i = .int .i64 k ∧ s = .int .i64 (S k) ∧ Below w2.heap.size w2 wr)
  case atStart => exact ⟨0, Nat.zero_le _, rfl, rfl, by rw [HS0.out], Below.refl _ _⟩
  case round =>
    obtain ⟨i, hi, hg, rfl, rfl, hB⟩ := hrel
    rename World => wo
    have HGK := Lib.hid hg
    clear hg
    by_cases hlt : i < N
    · obtain ⟨b, off, hA, hb, x1, x2⟩ := HC.out wo hB i hlt
      subst hA
      have zB := hB.size
      have zb := Nat.lt_of_lt_of_le hb zB
      have HSi := Lib.hid (HS1.out i)
      have hSb := HS.out i (by omega)
      have HQi := Lib.hid (fun j hj => HQ.out i j hj)
      have HQi1 := Lib.hid (HQ1.out i)
      have HQi0 := Lib.hid (HQ0.out i)
      generalize S i = t0 at *
      generalize Q i = Qi at *
      obtain ⟨a1, a2, hae⟩ : ∃ a1 a2, f i = (a1, a2) := ⟨_, _, rfl⟩
      have HAE := Lib.hid hae
      rw [hae] at x1 x2
      have HSB := Lib.hid hSb
      have PA := PtR.new wo a1 a2 28
      have BA := Below.alloc hB zB (.cells #[.int .i64 a1, .int .i64 a2] 28)
      have HPA := Lib.hid PA
      have hic : i ≤ c := by omega
      clear hae hSb PA
      go_wp2_with fail
      obtain ⟨W1, hW1⟩ : ∃ W1, W1 = wo.alloc (.cells #[.int .i64 a1, .int .i64 a2] 28) := ⟨_, rfl⟩
      rw [← hW1] at HPA BA ⊢
      clear hW1 x1 x2 zb
      generalize wo.heap.size = Ba at *
      clear hB zB
      go_loopg [8, 39] i (fun g s j wr => ∃ k : Nat, k ≤ i ∧ g = i - k ∧ j = .int .i64 k ∧ s = .int .i64 (t0 + Qi k) ∧ Below w2.heap.size w2 wr ∧ Hid (PtR wr Ba a1 a2))
      case atStart => exact ⟨0, Nat.zero_le _, rfl, rfl, by rw [HQi0.out, Int.add_zero], BA, HPA⟩
      case round =>
        clear BA HPA
        obtain ⟨j, hj, hg, rfl, rfl, hB, hPA⟩ := hrel
        rename World => wi
        have HGJ := Lib.hid hg
        clear hg
        by_cases hlj : j < i
        · obtain ⟨b', off', hA', hb', x1, x2⟩ := HC.out wi hB j (by omega)
          obtain ⟨rfl, rfl⟩ : b' = b ∧ off' = off := by simp at hA'; exact ⟨hA'.1.symm, hA'.2.symm⟩
          have zB := hB.size
          have zb := Nat.lt_of_lt_of_le hb' zB
          have HQj := Lib.hid (HQi1.out j)
          have hQb := HQi.out j (by have := HN5.out; omega)
          have HRj := Lib.hid (fun k hk => HR.out i j k hk)
          have HRj1 := Lib.hid (HR1.out i j)
          have HRj0 := Lib.hid (HR0.out i j)
          generalize Qi j = t1 at *
          generalize R i j = Rj at *
          obtain ⟨b1, b2, hbe⟩ : ∃ b1 b2, f j = (b1, b2) := ⟨_, _, rfl⟩
          have HBE := Lib.hid hbe
          rw [hbe] at x1 x2
          have HQB := Lib.hid hQb
          have hjc : j ≤ c := by omega
          have PB := PtR.new wi b1 b2 28
          have BA := Below.alloc hB zB (.cells #[.int .i64 b1, .int .i64 b2] 28)
          have HPA := Lib.hid (hPA.out.up' (Below.alloc (Below.refl wi.heap.size wi) (Nat.le_refl _) (.cells #[.int .i64 b1, .int .i64 b2] 28)))
          have HPB := Lib.hid PB
          clear hbe hQb PB hA' hPA
          go_wp2_with fail
          obtain ⟨W2, hW2⟩ : ∃ W2, W2 = wi.alloc (.cells #[.int .i64 b1, .int .i64 b2] 28) := ⟨_, rfl⟩
          rw [← hW2] at HPA HPB BA ⊢
          clear hW2 x1 x2 zb
          generalize wi.heap.size = Bb at *
          clear hB zB
          go_loopg [8, 48] j (fun g s k wr => ∃ m : Nat, m ≤ j ∧ g = j - m ∧ k = .int .i64 m ∧ s = .int .i64 (t0 + t1 + Rj m) ∧ Below w2.heap.size w2 wr ∧ Hid (PtR wr Ba a1 a2) ∧ Hid (PtR wr Bb b1 b2))
          case atStart => exact ⟨0, Nat.zero_le _, rfl, rfl, by rw [HRj0.out, Int.add_zero], BA, HPA, HPB⟩
          case round =>
            clear BA HPA HPB
            obtain ⟨m, hm, hg, rfl, rfl, hB, hPA, hPB⟩ := hrel
            rename World => wv
            have HGM := Lib.hid hg
            clear hg
            by_cases hlm : m < j
            · obtain ⟨b'', off'', hA', hb'', x1, x2⟩ := HC.out wv hB m (by omega)
              obtain ⟨rfl, rfl⟩ : b'' = b' ∧ off'' = off' := by simp at hA'; exact ⟨hA'.1.symm, hA'.2.symm⟩
              have zB := hB.size
              have zb := Nat.lt_of_lt_of_le hb'' zB
              have hRb := HRj.out m (by have := HN5.out; omega)
              have HRm := Lib.hid (HRj1.out m)
              have KT := Lib.hid (fun W => KTU.out i j m W hlt (by omega) (by omega))
              have hTB := HTB.out i j m hlt (by omega) (by omega)
              have HSZ := Lib.hid (HST.out i j m)
              rw [HSZ.out] at HRm
              rw [HAE.out, HBE.out] at HRm KT hTB
              generalize Rj m = t2 at *
              obtain ⟨d1, d2, hde⟩ : ∃ d1 d2, f m = (d1, d2) := ⟨_, _, rfl⟩
              rw [hde] at x1 x2 HRm KT hTB
              simp only at HRm KT hTB
              clear hde hA' HSZ
              have KA := Lib.hid (fun W => l1Abs_any (twI a1 a2 b1 b2 d1 d2) W (by omega) (by omega))
              generalize twI a1 a2 b1 b2 d1 d2 = tw at *
              have g0 := hPA.out.c0
              have g1 := hPA.out.c1
              have gz := hPA.out.hi
              have g2 := hPB.out.c0
              have g3 := hPB.out.c1
              have gy := hPB.out.hi
              obtain ⟨s1, s2⟩ := HSB.out
              obtain ⟨s3, s4⟩ := HQB.out
              obtain ⟨s5, s6⟩ := hRb
              have UC := Below.alloc (Below.refl wv.heap.size wv) (Nat.le_refl _) (.cells #[.int .i64 d1, .int .i64 d2] 28)
              have HBN := Lib.hid (hB.trans (UC.mono zB))
              have HPA2 := Lib.hid (hPA.out.up' UC)
              have HPB2 := Lib.hid (hPB.out.up' UC)
              clear UC hB hPA hPB hTB
              go_wp2_with fail
              obtain ⟨W3, hW3⟩ : ∃ W3, W3 = wv.alloc (.cells #[.int .i64 d1, .int .i64 d2] 28) := ⟨_, rfl⟩
              rw [← hW3] at HBN HPA2 HPB2 ⊢
              clear hW3
              refine (KT.out W3).mono ?_; rintro e w5 ⟨rfl, hb5⟩
              have B5 := HBN.out.trans (hb5.mono HBN.out.size)
              have HPA5 := Lib.hid (HPA2.out.up' hb5)
              have HPB5 := Lib.hid (HPB2.out.up' hb5)
              clear hb5 HBN HPA2 HPB2 g0 g1 gz g2 g3 gy x1 x2 zb zB KT
              go_wp2_with fail
              refine (KA.out _).mono ?_; rintro e _ ⟨rfl, rfl⟩
              clear KA
              generalize ((tw.natAbs : Nat) : Int) = ta at *
              by_cases hs : ta = q
              · have HK := Lib.hid (HRm.out.trans (by rw [if_pos hs]))
                subst hs
                clear HRm
                go_wp2_with fail
                go_roundg (j - (m + 1))
                case measure => have := HGM.out; omega
                case rel => exact ⟨m + 1, by omega, rfl, by go_num, by rw [HK.out, Int.add_assoc], B5, HPA5, HPB5⟩
              · have HK := Lib.hid (HRm.out.trans (by rw [if_neg hs, Int.add_zero]))
                clear HRm
                go_wp2_with fail
                go_roundg (j - (m + 1))
                case measure => have := HGM.out; omega
                case rel => exact ⟨m + 1, by omega, rfl, by go_num, by rw [HK.out], B5, HPA5, HPB5⟩
            · obtain rfl : m = j := by omega
              go_wp2_with fail
              go_roundg (i - (m + 1))
              case measure => have := HGJ.out; omega
              case rel => exact ⟨m + 1, by omega, rfl, by go_num, by rw [HQj.out, Int.add_assoc], hB, hPA⟩
        · obtain rfl : j = i := by omega
          go_wp2_with fail
          go_roundg (N - (j + 1))
          case measure => have := HGK.out; omega
          case rel => exact ⟨j + 1, by omega, rfl, by go_num, by rw [HSi.out], hB⟩
    · obtain rfl : i = N := by omega
      have eV : Hid (S i = V) := HV
      go_wp2_with fail
      go_ret2
      exact ⟨by rw [eV.out]; rfl, B2.trans (hB.mono B2.size)⟩
theorem specCountOfArea_any (w h t : Int) (W : World) :
    Calls Try.prog 26 #[.int .i64 w, .int .i64 h, .int .i64 t] W fun e w' => e = .returned (.tuple #[.int .i64 (arV w h t), .bool (arB w h t)]) ∧ Below W.heap.size W w' := by
  unfold arV arB
  have K := Lib.hid (ctBoard_any w h 6 W)
  by_cases hg : bdB 6 w h = true
  · by_cases ht : 0 ≤ t ∧ t ≤ 200
    · have := specCountOfArea_t w h t W hg ht
      rw [hg, Bool.true_and, decide_eq_true ht.1, decide_eq_true ht.2, Bool.and_self, bdV_t]
      exact this
    · have hb : (decide (0 ≤ t) && decide (t ≤ 200)) = false := by simp; omega
      have KI := Lib.hid (fun W => l1In_any t 0 200 W)
      rw [hb] at KI
      rw [hg] at K ⊢
      rw [hb, Bool.true_and, bdV_f]
      clear hg hb ht
      go_enter Try.func26, Try.ntmps26
      go_wp2_with fail
      refine K.out.mono ?_; rintro e w1 ⟨rfl, hb1⟩
      go_wp2_with fail
      refine (KI.out _).mono ?_; rintro e _ ⟨rfl, rfl⟩
      go_wp2_with fail
      go_ret2
      exact ⟨rfl, hb1⟩
  · have hf : bdB 6 w h = false := by simpa using hg
    rw [hf] at K ⊢
    rw [Bool.false_and, bdV_f]
    clear hg hf
    go_enter Try.func26, Try.ntmps26
    go_wp2_with fail
    refine K.out.mono ?_; rintro e w1 ⟨rfl, hb1⟩
    go_wp2_with fail
    go_ret2
    exact ⟨rfl, hb1⟩
end Go.Proofs.Ytmhdbodmpohdnaa

