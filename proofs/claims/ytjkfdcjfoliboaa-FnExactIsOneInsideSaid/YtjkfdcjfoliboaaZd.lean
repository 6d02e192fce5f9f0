/- plain mathematics: how often a polygon goes round a point -/
import Derived.Test.YtjkfdcjfoliboaaZc
namespace Go.Proofs.Ytjkfdcjfoliboaa.MJ
set_option linter.unusedVariables false
set_option linter.unusedSimpArgs false
/-- on the lines of a polygon -/
def Bd (v : Nat → Pt) (x : Pt) : Prop := ∃ k, on (v k) (v (k + 1)) x
/-- moving level changes nothing as long as the line is not met -/
theorem cr_level {x p c d : Pt} (hl : x.2 = p.2) (h : ¬ meets x p c d) : cr c d p = cr c d x := by
  have := cell x p c d h
  have r1 : ∀ z, rh x p z = 0 := fun z => by unfold rh; rw [hl, if_neg (by omega), if_neg (by omega)]
  rw [r1, r1] at this
  omega
/-- all crossings with the level of a point are whole -/
def Whole (v : Nat → Pt) (p : Pt) : Prop := ∀ k, ((v k).2 < p.2 ∧ p.2 < (v (k + 1)).2) ∨ ((v (k + 1)).2 < p.2 ∧ p.2 < (v k).2) → ∃ y : Int, tw (v k) (v (k + 1)) (y, p.2) = 0
/-- the nearest point of the lines to the east -/
structure Near (v : Nat → Pt) (p x : Pt) : Prop where
  bd : Bd v x
  lev : x.2 = p.2
  lt : p.1 < x.1
  min : ∀ y, Bd v y → y.2 = p.2 → p.1 < y.1 → x.1 ≤ y.1
theorem near_or (v : Nat → Pt) (p : Pt) : (∃ x, Near v p x) ∨ ∀ y, Bd v y → y.2 = p.2 → ¬ p.1 < y.1 := by
  by_cases h : ∃ m : Nat, Bd v (p.1 + 1 + m, p.2)
  · left
    have hm : ∀ n : Nat, (∃ m : Nat, m ≤ n ∧ Bd v (p.1 + 1 + m, p.2)) → ∃ m : Nat, Bd v (p.1 + 1 + m, p.2) ∧ ∀ k : Nat, Bd v (p.1 + 1 + k, p.2) → m ≤ k := by
      intro n
      induction n with
      | zero => intro ⟨m, h1, h2⟩; exact ⟨m, h2, fun k _ => by omega⟩
      | succ n ih =>
        intro ⟨m, h1, h2⟩
        by_cases hc : ∃ m : Nat, m ≤ n ∧ Bd v (p.1 + 1 + m, p.2)
        · exact ih hc
        · refine ⟨m, h2, fun k hk => ?_⟩
          have : ¬ k ≤ n := fun hkn => hc ⟨k, hkn, hk⟩
          omega
    obtain ⟨m, hb⟩ := h
    obtain ⟨m, hb, hmin⟩ := hm m ⟨m, Nat.le_refl _, hb⟩
    refine ⟨_, hb, rfl, by show p.1 < p.1 + 1 + (m : Int); omega, fun y hy hl hlt => ?_⟩
    have e : y = (p.1 + 1 + ((y.1 - p.1 - 1).toNat : Nat), p.2) := Prod.ext (by show y.1 = p.1 + 1 + ((y.1 - p.1 - 1).toNat : Int); omega) hl
    have := hmin (y.1 - p.1 - 1).toNat (e ▸ hy)
    show p.1 + 1 + (m : Int) ≤ y.1
    omega
  · right
    intro y hy hl hlt
    refine h ⟨(y.1 - p.1 - 1).toNat, ?_⟩
    have e : y = (p.1 + 1 + ((y.1 - p.1 - 1).toNat : Nat), p.2) := Prod.ext (by show y.1 = p.1 + 1 + ((y.1 - p.1 - 1).toNat : Int); omega) hl
    exact e ▸ hy
theorem tw_lev (c d : Pt) (y : Int) (p : Pt) (h : tw c d (y, p.2) = 0) : tw c d p = (d.2 - c.2) * (y - p.1) := by
  unfold tw at *; grind
/-- between a point and the nearest point of the lines no line is met -/
theorem near_clear {v : Nat → Pt} {p x : Pt} (hN : Near v p x) (hp : ¬ Bd v p) (hw : Whole v p) {k : Nat} (hk : ¬ on (v k) (v (k + 1)) x) : ¬ meets x p (v k) (v (k + 1)) := by
  have bx : ∀ c, Bd v c → on x p c → c = x := by
    intro c hc ⟨h0, h1, h2, h3, h4⟩
    have e2 : c.2 = p.2 := by have := hN.lev; omega
    have hlt := hN.lt
    by_cases e : c.1 = p.1
    · exact absurd ((Prod.ext e e2 : c = p) ▸ hc) hp
    · have := hN.min c hc e2 (by omega)
      exact Prod.ext (by omega) (by rw [e2, hN.lev])
  have bc : Bd v (v k) := ⟨k, on_left _ _⟩
  have bd : Bd v (v (k + 1)) := ⟨k, on_right _ _⟩
  intro h
  rcases h with h | h | h | h | ⟨h, g⟩
  · exact hk h
  · exact hp ⟨k, h⟩
  · exact hk (bx _ bc h ▸ on_left _ _)
  · exact hk (bx _ bd h ▸ on_right _ _)
  · have hlev := hN.lev
    have hlt := hN.lt
    have t : ∀ z : Pt, tw x p z = (x.1 - p.1) * (x.2 - z.2) := fun z => by unfold tw; rw [hlev]; grind
    rw [mul_neg_iff, t, t] at h
    have s1 := signs (x.1 - p.1) (x.2 - (v k).2)
    have s2 := signs (x.1 - p.1) (x.2 - (v (k + 1)).2)
    have cross : ((v k).2 < p.2 ∧ p.2 < (v (k + 1)).2) ∨ ((v (k + 1)).2 < p.2 ∧ p.2 < (v k).2) := by
      generalize (x.1 - p.1) * (x.2 - (v k).2) = m1 at *
      generalize (x.1 - p.1) * (x.2 - (v (k + 1)).2) = m2 at *
      omega
    obtain ⟨y, hy⟩ := hw k cross
    have e1 := tw_lev _ _ y p hy
    have e2 := tw_lev _ _ y x (by rw [hlev]; exact hy)
    rw [mul_neg_iff, e1, e2] at g
    have k1 := signs ((v (k + 1)).2 - (v k).2) (y - p.1)
    have k2 := signs ((v (k + 1)).2 - (v k).2) (y - x.1)
    have hb : Bd v (y, p.2) := ⟨k, on_of_level _ _ _ hy (by show ((v k).2 ≤ p.2 ∧ p.2 ≤ (v (k + 1)).2) ∨ _; simp only []; omega) (by omega)⟩
    have hmin := hN.min (y, p.2) hb rfl
    simp only [] at hmin
    clear t h s1 s2
    generalize ((v (k + 1)).2 - (v k).2) * (y - p.1) = m1 at *
    generalize ((v (k + 1)).2 - (v k).2) * (y - x.1) = m2 at *
    omega
/-- a corner is on no other line -/
theorem corner_off {v : Nat → Pt} {n : Nat} (h : Poly v n) (k : Nat) {j : Nat} (h1 : k + 1 ≤ j) (h2 : j + 2 ≤ k + n) : ¬ on (v j) (v (j + 1)) (v k) := by
  intro w
  by_cases e : j = k + 1
  · subst e
    have := w.1
    rw [tw_rot] at this
    exact h.turn k this
  · exact far_line h (by omega) h2 (.inl w)
/-- the middle of a line is on no other line -/
theorem mid_off {v : Nat → Pt} {n : Nat} (h : Poly v n) (k : Nat) {x : Pt} (hx : In (v k) (v (k + 1)) x) {j : Nat} (h1 : k + 1 ≤ j) (h2 : j + 1 ≤ k + n) : ¬ on (v j) (v (j + 1)) x := by
  have h3 := h.three
  intro w
  by_cases e : j = k + 1
  · subst e
    have hs := in_side (a := v (k + 2)) (in_swap hx)
    have e1 : tw (v (k + 2)) (v (k + 1)) x = - tw (v (k + 1)) (v (k + 2)) x := tw_swap _ _ _
    have e2 : tw (v (k + 2)) (v (k + 1)) (v k) = - tw (v k) (v (k + 1)) (v (k + 2)) := by rw [tw_swap (v (k + 1)) (v (k + 2)), tw_rot]
    have := h.turn k
    have := w.1
    rw [show k + 1 + 1 = k + 2 from rfl] at this
    omega
  · by_cases e' : j + 1 = k + n
    · have hs := in_side (a := v (k + n - 1)) hx
      have ht := turn_at h k
      have := w.1
      rw [e', h.per, show j = k + n - 1 by omega] at this
      omega
    · exact far_line h (by omega) (by omega) (share (in_on hx) w)
/-- HOW OFTEN: a polygon goes round a point off its lines never, or once to its one side -/
theorem WN_off {v : Nat → Pt} {n : Nat} (h : Poly v n) {p : Pt} (hp : ¬ Bd v p) (hw : Whole v p) : WN v n p = 0 ∨ WN v n p = Cs v n ∨ WN v n p = Cs v n - 1 := by
  have h3 := h.three
  rcases near_or v p with ⟨x, hN⟩ | hno
  · right
    have ot : ∀ k, (∀ j, k + 1 ≤ j → j + 2 ≤ k + n → ¬ on (v j) (v (j + 1)) x) → Ot v n k p = Ot v n k x := by
      intro k hk
      unfold Ot
      refine sm_congr fun j hj => cr_level hN.lev ?_
      have := hk (k + 1 + j) (by omega) (by omega)
      rw [show k + 1 + j + 1 = k + 2 + j by omega] at this
      have := near_clear hN hp hw (k := k + 1 + j) (by rw [show k + 1 + j + 1 = k + 2 + j by omega]; exact this)
      rwa [show k + 1 + j + 1 = k + 2 + j by omega] at this
    have corner : ∀ k, x = v k → WN v n p = Cs v n ∨ WN v n p = Cs v n - 1 := by
      intro k e
      subst e
      have o := ot k (fun j h1 h2 => corner_off h k h1 h2)
      have c := Cs_at h.toSimple k
      have w := WN_at h.toSimple k p
      have := co_west (adj_at h.toSimple k) hN.lev.symm hN.lt
      omega
    obtain ⟨k, hk⟩ := hN.bd
    rcases on_in hk with e | e | hx
    · exact corner k e
    · exact corner (k + 1) e
    · have o := ot k (fun j h1 h2 => mid_off h k hx h1 (by omega))
      have m := mid_sum h k hx
      have w := WN_at h.toSimple k p
      have l : cr (v (k + n - 1)) (v k) p = cr (v (k + n - 1)) (v k) x := by
        have := mid_off h k hx (j := k + n - 1) (by omega) (by omega)
        have := near_clear hN hp hw this
        rw [show k + n - 1 + 1 = k + n by omega, h.per] at this
        exact cr_level hN.lev this
      have hlev := hN.lev
      have hlt := hN.lt
      by_cases e : (v k).2 = (v (k + 1)).2
      · exfalso
        have h2 := hx.2
        have bc : Bd v (v k) := ⟨k, on_left _ _⟩
        have bd : Bd v (v (k + 1)) := ⟨k, on_right _ _⟩
        have m1 := hN.min _ bc (by omega)
        have m2 := hN.min _ bd (by omega)
        refine hp ⟨k, ?_, by omega, by omega, by omega, by omega⟩
        unfold tw; rw [← e, show p.2 = (v k).2 by omega]; grind
      · have t : tw (v k) (v (k + 1)) p = ((v (k + 1)).2 - (v k).2) * (x.1 - p.1) := tw_lev _ _ x.1 p (by rw [← hlev]; exact hx.1)
        have s := signs ((v (k + 1)).2 - (v k).2) (x.1 - p.1)
        have h2 := hx.2
        have cu : cr (v k) (v (k + 1)) p = 2 * up (v k) (v (k + 1)) - 1 := by
          unfold cr up
          rw [t]
          generalize ((v (k + 1)).2 - (v k).2) * (x.1 - p.1) = M at *
          (repeat' split) <;> omega
        have := up_01 (v k) (v (k + 1))
        omega
  · left
    refine sm_zero fun j _ => ?_
    have bc : Bd v (v j) := ⟨j, on_left _ _⟩
    have bd : Bd v (v (j + 1)) := ⟨j, on_right _ _⟩
    have n1 := hno _ bc
    have n2 := hno _ bd
    have hy : ((v j).2 < p.2 ∧ p.2 < (v (j + 1)).2) ∨ ((v (j + 1)).2 < p.2 ∧ p.2 < (v j).2) → ∃ y : Int, y ≤ p.1 ∧ tw (v j) (v (j + 1)) p = ((v (j + 1)).2 - (v j).2) * (y - p.1) := by
      intro hc
      obtain ⟨y, hy⟩ := hw j hc
      have hb : Bd v (y, p.2) := ⟨j, on_of_level _ _ _ hy (by simp only []; omega) (by omega)⟩
      have := hno _ hb rfl
      simp only [] at this
      exact ⟨y, by omega, tw_lev _ _ y p hy⟩
    have t1 : (v j).2 = p.2 → tw (v j) (v (j + 1)) p = ((v (j + 1)).2 - (v j).2) * ((v j).1 - p.1) := fun e => by unfold tw; rw [← e]; grind
    have t2 : (v (j + 1)).2 = p.2 → tw (v j) (v (j + 1)) p = ((v (j + 1)).2 - (v j).2) * ((v (j + 1)).1 - p.1) := fun e => by unfold tw; rw [← e]; grind
    have key : ∀ z : Int, z ≤ p.1 → tw (v j) (v (j + 1)) p = ((v (j + 1)).2 - (v j).2) * (z - p.1) → cr (v j) (v (j + 1)) p = 0 := by
      intro z hz ht
      have a1 := Int.mul_nonneg (a := (v (j + 1)).2 - (v j).2) (b := p.1 - z)
      have a2 := Int.mul_nonneg (a := (v j).2 - (v (j + 1)).2) (b := p.1 - z)
      have b1 : ((v (j + 1)).2 - (v j).2) * (p.1 - z) = - tw (v j) (v (j + 1)) p := by rw [ht]; grind
      have b2 : ((v j).2 - (v (j + 1)).2) * (p.1 - z) = tw (v j) (v (j + 1)) p := by rw [ht]; grind
      rw [b1] at a1
      rw [b2] at a2
      unfold cr
      clear ht b1 b2 t1 t2 hy
      (repeat' split) <;> omega
    by_cases c1 : (v j).2 = p.2
    · exact key _ (by have := n1 c1; omega) (t1 c1)
    · by_cases c2 : (v (j + 1)).2 = p.2
      · exact key _ (by have := n2 c2; omega) (t2 c2)
      · by_cases c3 : ((v j).2 < p.2 ∧ p.2 < (v (j + 1)).2) ∨ ((v (j + 1)).2 < p.2 ∧ p.2 < (v j).2)
        · obtain ⟨y, h1, h2⟩ := hy c3
          exact key y h1 h2
        · unfold cr
          rw [if_neg (by omega), if_neg (by omega)]
def sc (M : Int) (p : Pt) : Pt := (M * p.1, M * p.2)
theorem tw_sc (M : Int) (a b c : Pt) : tw (sc M a) (sc M b) (sc M c) = M * M * tw a b c := by unfold tw sc; grind
theorem sc_lt {M : Int} (hM : 0 < M) (x y : Int) : M * x < M * y ↔ x < y := ⟨fun h => Int.lt_of_mul_lt_mul_left h (Int.le_of_lt hM), fun h => Int.mul_lt_mul_of_pos_left h hM⟩
theorem sc_le {M : Int} (hM : 0 < M) (x y : Int) : M * x ≤ M * y ↔ x ≤ y := by
  have := sc_lt hM y x
  omega
theorem sc_inj {M : Int} (hM : 0 < M) {p q : Pt} (h : sc M p = sc M q) : p = q := by
  have h1 : M * p.1 = M * q.1 := congrArg Prod.fst h
  have h2 : M * p.2 = M * q.2 := congrArg Prod.snd h
  exact Prod.ext (Int.eq_of_mul_eq_mul_left (by omega) h1) (Int.eq_of_mul_eq_mul_left (by omega) h2)
theorem mm_pos {M : Int} (hM : 0 < M) : 0 < M * M := Int.mul_pos hM hM
theorem tw_sc_pos {M : Int} (hM : 0 < M) (a b c : Pt) : 0 < tw (sc M a) (sc M b) (sc M c) ↔ 0 < tw a b c := by
  rw [tw_sc]
  have := mm_pos hM
  constructor
  · intro h; rw [Int.mul_comm] at h; exact pos_of_mul h this
  · intro h; exact Int.mul_pos this h
theorem tw_sc_neg {M : Int} (hM : 0 < M) (a b c : Pt) : tw (sc M a) (sc M b) (sc M c) < 0 ↔ tw a b c < 0 := by
  have := tw_sc_pos hM b a c
  rw [tw_swap (sc M a) (sc M b), tw_swap a b] at this
  omega
theorem tw_sc_zero {M : Int} (hM : 0 < M) (a b c : Pt) : tw (sc M a) (sc M b) (sc M c) = 0 ↔ tw a b c = 0 := by
  have h1 := tw_sc_pos hM a b c
  have h2 := tw_sc_neg hM a b c
  omega
theorem cr_sc {M : Int} (hM : 0 < M) (a b p : Pt) : cr (sc M a) (sc M b) (sc M p) = cr a b p := by
  unfold cr
  simp only [tw_sc_pos hM, tw_sc_neg hM, show ∀ q, (sc M q).2 = M * q.2 from fun _ => rfl, sc_le hM, sc_lt hM]
theorem rh_sc {M : Int} (hM : 0 < M) (a b p : Pt) : rh (sc M a) (sc M b) (sc M p) = rh a b p := by
  unfold rh
  simp only [tw_sc_pos hM, tw_sc_neg hM, show ∀ q, (sc M q).2 = M * q.2 from fun _ => rfl, sc_le hM, sc_lt hM]
theorem up_sc {M : Int} (hM : 0 < M) (a b : Pt) : up (sc M a) (sc M b) = up a b := by
  unfold up
  simp only [show ∀ q, (sc M q).2 = M * q.2 from fun _ => rfl, show ∀ q, (sc M q).1 = M * q.1 from fun _ => rfl, sc_lt hM]
theorem on_sc {M : Int} (hM : 0 < M) (a b p : Pt) : on (sc M a) (sc M b) (sc M p) ↔ on a b p := by
  unfold on
  rw [tw_sc_zero hM]
  have k : ∀ x y z : Int, (min (M * x) (M * y) ≤ M * z ↔ min x y ≤ z) ∧ (M * z ≤ max (M * x) (M * y) ↔ z ≤ max x y) := by
    intro x y z
    have a1 := sc_le hM x z
    have a2 := sc_le hM y z
    have a3 := sc_le hM z x
    have a4 := sc_le hM z y
    omega
  have k1 := k a.1 b.1 p.1
  have k2 := k a.2 b.2 p.2
  show (_ ∧ min (M * a.1) (M * b.1) ≤ M * p.1 ∧ M * p.1 ≤ max (M * a.1) (M * b.1) ∧ min (M * a.2) (M * b.2) ≤ M * p.2 ∧ M * p.2 ≤ max (M * a.2) (M * b.2)) ↔ _
  rw [k1.1, k1.2, k2.1, k2.2]
theorem meets_sc {M : Int} (hM : 0 < M) (a b c d : Pt) : meets (sc M a) (sc M b) (sc M c) (sc M d) ↔ meets a b c d := by
  unfold meets
  rw [on_sc hM, on_sc hM, on_sc hM, on_sc hM]
  have : ∀ x y : Int, M * M * x * (M * M * y) < 0 ↔ x * y < 0 := by
    intro x y
    have e : M * M * x * (M * M * y) = (M * M) * (M * M) * (x * y) := by grind
    rw [e]
    have h := mm_pos (mm_pos hM)
    have := signs (M * M * (M * M)) (x * y)
    generalize M * M * (M * M) * (x * y) = m at *
    omega
  rw [tw_sc, tw_sc, tw_sc, tw_sc, this, this]
theorem adj_sc {M : Int} (hM : 0 < M) {a b c : Pt} (h : adj a b c) : adj (sc M a) (sc M b) (sc M c) := by
  obtain ⟨h1, h2, h3⟩ := h
  refine ⟨fun e => h1 (sc_inj hM e), fun e => h2 (sc_inj hM e), fun e => ?_⟩
  have := h3 ((tw_sc_zero hM _ _ _).1 e)
  have e2 : ∀ q : Pt, (sc M q).2 = M * q.2 := fun _ => rfl
  have e1 : ∀ q : Pt, (sc M q).1 = M * q.1 := fun _ => rfl
  rw [e2, e2, e2, e1, e1, e1, sc_lt hM, sc_lt hM, sc_lt hM, sc_lt hM, sc_lt hM, sc_lt hM, sc_lt hM, sc_lt hM]
  rcases this with h | h | ⟨h, h', h''⟩
  · exact .inl h
  · exact .inr (.inl h)
  · exact .inr (.inr ⟨by rw [h], by rw [h'], h''⟩)
theorem poly_sc {M : Int} (hM : 0 < M) {v : Nat → Pt} {n : Nat} (h : Poly v n) : Poly (fun i => sc M (v i)) n :=
  { three := h.three
    per := fun i => by rw [h.per]
    adj := fun i => adj_sc hM (h.adj i)
    apart := fun i j h1 h2 w => h.apart i j h1 h2 ((meets_sc hM _ _ _ _).1 w)
    turn := fun i w => h.turn i ((tw_sc_zero hM _ _ _).1 w) }
theorem Cs_sc {M : Int} (hM : 0 < M) (v : Nat → Pt) (n : Nat) : Cs (fun i => sc M (v i)) n = Cs v n := by
  unfold Cs Ck Fk
  simp only [cr_sc hM, rh_sc hM, up_sc hM]
theorem WN_sc {M : Int} (hM : 0 < M) (v : Nat → Pt) (n : Nat) (p : Pt) : WN (fun i => sc M (v i)) n (sc M p) = WN v n p := by
  unfold WN
  simp only [cr_sc hM]
theorem Bd_sc {M : Int} (hM : 0 < M) (v : Nat → Pt) (p : Pt) : Bd (fun i => sc M (v i)) (sc M p) ↔ Bd v p := by
  unfold Bd
  simp only [on_sc hM]
/-- a number that all heights divide -/
theorem heights {v : Nat → Pt} {n : Nat} (h : Simple v n) : ∃ M : Int, 0 < M ∧ ∀ k, (v (k + 1)).2 - (v k).2 ≠ 0 → ((v (k + 1)).2 - (v k).2) ∣ M := by
  have h3 := h.three
  have : ∀ m : Nat, ∃ M : Int, 0 < M ∧ ∀ k, k < m → (v (k + 1)).2 - (v k).2 ≠ 0 → ((v (k + 1)).2 - (v k).2) ∣ M := by
    intro m
    induction m with
    | zero => exact ⟨1, by omega, fun k hk => by omega⟩
    | succ m ih =>
      obtain ⟨M, hM, hd⟩ := ih
      by_cases e : (v (m + 1)).2 - (v m).2 = 0
      · refine ⟨M, hM, fun k hk he => ?_⟩
        by_cases ek : k = m
        · subst ek; exact absurd e he
        · exact hd k (by omega) he
      · have step : ∀ f : Int, 0 < f → ((v (m + 1)).2 - (v m).2) ∣ f → ∃ M : Int, 0 < M ∧ ∀ k, k < m + 1 → (v (k + 1)).2 - (v k).2 ≠ 0 → ((v (k + 1)).2 - (v k).2) ∣ M := by
          intro f hf hfd
          refine ⟨M * f, Int.mul_pos hM hf, fun k hk he => ?_⟩
          by_cases ek : k = m
          · subst ek; exact Int.dvd_trans hfd (Int.dvd_mul_left _ _)
          · exact Int.dvd_trans (hd k (by omega) he) (Int.dvd_mul_right _ _)
        by_cases hp : 0 < (v (m + 1)).2 - (v m).2
        · exact step _ hp (Int.dvd_refl _)
        · exact step (-((v (m + 1)).2 - (v m).2)) (by omega) ⟨-1, by omega⟩
  obtain ⟨M, hM, hd⟩ := this n
  refine ⟨M, hM, fun k he => ?_⟩
  have e1 : v k = v (k % n) := per_mod h.per k
  have e2 : v (k + 1) = v (k % n + 1) := by
    rw [per_mod h.per (k + 1), per_mod h.per (k % n + 1), Nat.mod_add_mod]
  rw [e1, e2] at he ⊢
  exact hd _ (Nat.mod_lt _ (by omega)) he
/-- JORDAN: off its lines a polygon goes round a point never, or once to its one side -/
theorem jordan {v : Nat → Pt} {n : Nat} (h : Poly v n) {p : Pt} (hp : ¬ Bd v p) : WN v n p = 0 ∨ WN v n p = Cs v n ∨ WN v n p = Cs v n - 1 := by
  obtain ⟨M, hM, hd⟩ := heights h.toSimple
  have k := WN_off (poly_sc hM h) (p := sc M p) (fun w => hp ((Bd_sc hM v p).1 w)) (by
    intro k hc
    have hc' : (v (k + 1)).2 - (v k).2 ≠ 0 := by
      intro e
      have e' : (v (k + 1)).2 = (v k).2 := by omega
      simp only [sc, e'] at hc
      omega
    obtain ⟨q, hq⟩ := hd k hc'
    refine ⟨M * (v k).1 + q * ((v (k + 1)).1 - (v k).1) * (p.2 - (v k).2), ?_⟩
    unfold tw sc
    simp only []
    grind)
  rw [WN_sc hM, Cs_sc hM] at k
  exact k
end Go.Proofs.Ytjkfdcjfoliboaa.MJ
