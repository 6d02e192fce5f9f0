/- plain mathematics: once around, and areas -/
import Derived.Test.YtjkfdcjfoliboaaZd
namespace Go.Proofs.Ytjkfdcjfoliboaa.MJ
set_option linter.unusedVariables false
set_option linter.unusedSimpArgs false
def ng (p : Pt) : Pt := (-p.1, -p.2)
theorem tw_ng (a b c : Pt) : tw (ng a) (ng b) (ng c) = tw a b c := by unfold tw ng; grind
theorem cr_ng (a b p : Pt) : cr (ng a) (ng b) (ng p) = rh a b p := by
  unfold cr rh
  rw [tw_ng]
  simp only [ng]
  (repeat' split) <;> omega
theorem rh_ng (a b p : Pt) : rh (ng a) (ng b) (ng p) = cr a b p := by
  unfold cr rh
  rw [tw_ng]
  simp only [ng]
  (repeat' split) <;> omega
theorem up_ng {a b : Pt} (h : a ≠ b) : up (ng a) (ng b) = 1 - up a b := by
  have e : a.2 = b.2 → a.1 ≠ b.1 := fun e e' => h (Prod.ext e' e)
  unfold up ng
  simp only []
  (repeat' split) <;> omega
theorem ng_ng (p : Pt) : ng (ng p) = p := Prod.ext (by simp [ng]) (by simp [ng])
theorem ng_inj {a b : Pt} (h : ng a = ng b) : a = b := by rw [← ng_ng a, h, ng_ng]
theorem on_ng {a b p : Pt} : on (ng a) (ng b) (ng p) ↔ on a b p := by
  unfold on
  rw [tw_ng]
  simp only [ng]
  omega
theorem in_ng {a b p : Pt} (h : In a b p) : In (ng a) (ng b) (ng p) := by
  unfold In at *
  rw [tw_ng]
  simp only [ng]
  omega
theorem meets_ng {a b c d : Pt} : meets (ng a) (ng b) (ng c) (ng d) ↔ meets a b c d := by
  unfold meets
  rw [on_ng, on_ng, on_ng, on_ng, tw_ng, tw_ng, tw_ng, tw_ng]
theorem adj_ng {a b c : Pt} (h : adj a b c) : adj (ng a) (ng b) (ng c) := by
  obtain ⟨h1, h2, h3⟩ := h
  refine ⟨fun e => h1 (ng_inj e), fun e => h2 (ng_inj e), fun e => ?_⟩
  rw [tw_ng] at e
  have := h3 e
  simp only [ng]
  omega
theorem simple_ng {v : Nat → Pt} {n : Nat} (h : Simple v n) : Simple (fun i => ng (v i)) n :=
  { three := h.three
    per := fun i => by rw [h.per]
    adj := fun i => adj_ng (h.adj i)
    apart := fun i j h1 h2 w => h.apart i j h1 h2 (meets_ng.1 w) }
theorem poly_ng {v : Nat → Pt} {n : Nat} (h : Poly v n) : Poly (fun i => ng (v i)) n :=
  { toSimple := simple_ng h.toSimple
    turn := fun i w => h.turn i (by rw [tw_ng] at w; exact w) }
/-- a corner's own part, told from the other end -/
theorem co_ng {a b c : Pt} (h : adj a b c) : co (ng a) (ng b) (ng c) = co a b c - up a b - up b c + 1 := by
  have l := local_ a b c h
  unfold co
  rw [cr_ng, rh_ng, up_ng h.2.1]
  omega
/-- the northern corner, of several the western one -/
theorem north {v : Nat → Pt} {n : Nat} (h : Simple v n) : ∃ k, ∀ j, (v j).2 < (v k).2 ∨ ((v j).2 = (v k).2 ∧ (v k).1 ≤ (v j).1) := by
  have h3 := h.three
  have : ∀ m, 0 < m → ∃ k, k < m ∧ ∀ j, j < m → (v j).2 < (v k).2 ∨ ((v j).2 = (v k).2 ∧ (v k).1 ≤ (v j).1) := by
    intro m
    induction m with
    | zero => intro h; omega
    | succ m ih =>
      intro _
      by_cases h0 : m = 0
      · subst h0; exact ⟨0, by omega, fun j hj => by rw [show j = 0 by omega]; omega⟩
      · obtain ⟨k, hk, hm⟩ := ih (by omega)
        by_cases hc : (v m).2 < (v k).2 ∨ ((v m).2 = (v k).2 ∧ (v k).1 ≤ (v m).1)
        · refine ⟨k, by omega, fun j hj => ?_⟩
          by_cases hj' : j = m
          · subst hj'; exact hc
          · exact hm j (by omega)
        · refine ⟨m, by omega, fun j hj => ?_⟩
          by_cases hj' : j = m
          · subst hj'; omega
          · have := hm j (by omega); omega
  obtain ⟨k, _, hm⟩ := this n (by omega)
  exact ⟨k, fun j => by rw [per_mod h.per j]; exact hm _ (Nat.mod_lt _ (by omega))⟩
/-- the side is the same from both ends -/
theorem Cs_ng {v : Nat → Pt} {n : Nat} (h : Simple v n) : Cs (fun i => ng (v i)) n = Cs v n := by
  obtain ⟨k, hk⟩ := north h
  rw [Cs_at h k, Cs_at (simple_ng h) k]
  have z1 : Ot v n k (v k) = 0 := sm_zero fun i _ => by
    have h1 := hk (k + 1 + i)
    have h2 := hk (k + 2 + i)
    unfold cr
    rw [if_neg (by omega), if_neg (by omega)]
  have z2 : Ot (fun i => ng (v i)) n k (ng (v k)) = 0 := sm_zero fun i _ => by
    have h1 := hk (k + 1 + i)
    have h2 := hk (k + 2 + i)
    show cr (ng (v (k + 1 + i))) (ng (v (k + 2 + i))) (ng (v k)) = 0
    rw [cr_ng]
    generalize v (k + 1 + i) = a at *
    generalize v (k + 2 + i) = b at *
    generalize v k = p at *
    have t1 : a.2 = p.2 → tw a b p = (a.1 - p.1) * (b.2 - p.2) := fun e => by unfold tw; rw [← e]; grind
    have t2 : b.2 = p.2 → tw a b p = (b.1 - p.1) * (p.2 - a.2) := fun e => by unfold tw; rw [← e]; grind
    unfold rh
    have s1 := signs (a.1 - p.1) (b.2 - p.2)
    have s2 := signs (b.1 - p.1) (p.2 - a.2)
    generalize (a.1 - p.1) * (b.2 - p.2) = m1 at *
    generalize (b.1 - p.1) * (p.2 - a.2) = m2 at *
    (repeat' split) <;> omega
  have ha := adj_at h k
  have h1 := hk (k + n - 1)
  have h2 := hk (k + 1)
  rw [z1]
  show Ot (fun i => ng (v i)) n k (ng (v k)) + co (ng (v (k + n - 1))) (ng (v k)) (ng (v (k + 1))) = _
  rw [z2, co_ng ha]
  have u1 : up (v (k + n - 1)) (v k) = 1 := by
    have e : (v (k + n - 1)).2 = (v k).2 → (v (k + n - 1)).1 ≠ (v k).1 := fun e e' => ha.1 (Prod.ext e' e)
    unfold up
    (repeat' split) <;> omega
  have u2 : up (v k) (v (k + 1)) = 0 := by
    unfold up
    (repeat' split) <;> omega
  omega
/-- the turns of a polygon, told by the level line -/
def Tn (v : Nat → Pt) (n : Nat) : Int := sm (fun k => co (v k) (v (k + 1)) (v (k + 2)) - up (v k) (v (k + 1))) n
theorem sm_neg (f : Nat → Int) (n : Nat) : sm (fun i => - f i) n = - sm f n := by
  induction n with
  | zero => rfl
  | succ n ih => simp only [sm]; omega
/-- ONCE AROUND: the directions of a polygon's lines turn once -/
theorem Tn_eq {v : Nat → Pt} {n : Nat} (h : Simple v n) : Tn v n = 2 * Cs v n - 1 := by
  have h3 := h.three
  obtain ⟨m, rfl⟩ : ∃ m, n = m + 3 := ⟨n - 3, by omega⟩
  -- H i: the lines i + 1 .. n - 1 at corner i
  have step : ∀ i, 1 ≤ i → i ≤ m + 1 →
      sm (fun t => cr (v (i + 2 + t)) (v (i + 3 + t)) (v (i + 1))) (m + 1 - i)
      = sm (fun t => cr (v (i + 1 + t)) (v (i + 2 + t)) (v i)) (m + 2 - i)
        + rh (v i) (v (i + 1)) (v 0) - (co (v i) (v (i + 1)) (v (i + 2)) - up (v i) (v (i + 1))) := by
    intro i h1 h2
    have e : m + 2 - i = m + 1 - i + 1 := by omega
    rw [e, sm_head]
    have hc : sm (fun t => cr (v (i + 2 + t)) (v (i + 3 + t)) (v (i + 1)) - cr (v (i + 2 + t)) (v (i + 3 + t)) (v i)) (m + 1 - i)
        = rh (v i) (v (i + 1)) (v 0) - rh (v i) (v (i + 1)) (v (i + 2)) := by
      have ht := sm_tele (fun t => rh (v i) (v (i + 1)) (v (i + 2 + t))) (m + 1 - i)
      simp only [Nat.add_zero] at ht
      have e0 : v (i + 2 + (m + 1 - i)) = v 0 := by
        rw [show i + 2 + (m + 1 - i) = 0 + (m + 3) by omega, h.per]
      rw [e0] at ht
      rw [← ht]
      refine sm_congr fun t ht => ?_
      have := cell (v i) (v (i + 1)) (v (i + 2 + t)) (v (i + 3 + t)) (by
        have := h.apart i (i + 2 + t) (by omega) (by omega)
        rwa [show i + 2 + t + 1 = i + 3 + t by omega] at this)
      rw [this, show i + 2 + (t + 1) = i + 3 + t by omega]
    rw [sm_sub] at hc
    have hl := local_ (v i) (v (i + 1)) (v (i + 2)) (h.adj i)
    have e2 : sm (fun t => cr (v (i + 1 + (t + 1))) (v (i + 2 + (t + 1))) (v i)) (m + 1 - i) = sm (fun t => cr (v (i + 2 + t)) (v (i + 3 + t)) (v i)) (m + 1 - i) :=
      sm_congr fun t _ => by rw [show i + 1 + (t + 1) = i + 2 + t by omega, show i + 2 + (t + 1) = i + 3 + t by omega]
    rw [e2]
    unfold co
    simp only [Nat.add_zero]
    omega
  have tele := sm_tele (fun i => sm (fun t => cr (v (i + 1 + 1 + t)) (v (i + 1 + 2 + t)) (v (i + 1))) (m + 1 - i)) (m + 1)
  have e : sm (fun i => sm (fun t => cr (v (i + 1 + 1 + 1 + t)) (v (i + 1 + 1 + 2 + t)) (v (i + 1 + 1))) (m + 1 - (i + 1)) - sm (fun t => cr (v (i + 1 + 1 + t)) (v (i + 1 + 2 + t)) (v (i + 1))) (m + 1 - i)) (m + 1)
      = sm (fun i => rh (v (i + 1)) (v (i + 2)) (v 0) - (co (v (i + 1)) (v (i + 2)) (v (i + 3)) - up (v (i + 1)) (v (i + 2)))) (m + 1) := by
    refine sm_congr fun i hi => ?_
    have s := step (i + 1) (by omega) (by omega)
    have e1 : m + 1 - (i + 1) = m - i := by omega
    have e2 : m + 2 - (i + 1) = m + 1 - i := by omega
    rw [e1, e2] at s
    rw [e1]
    simp only [show i + 1 + 1 + 1 = i + 3 from rfl, show i + 1 + 1 + 2 = i + 4 from rfl, show i + 1 + 1 = i + 2 from rfl] at s ⊢
    omega
  rw [e, sm_sub] at tele
  have z0 : ∀ f, sm f 0 = 0 := fun _ => rfl
  simp only [Nat.sub_self, z0, Nat.sub_zero, Nat.zero_add] at tele
  have c1 := Cs_at h 1
  have c0 := Cs_at (simple_ng h) 0
  rw [Cs_ng h] at c0
  have o1 : Ot v (m + 3) 1 (v 1) = sm (fun t => cr (v (1 + 1 + t)) (v (1 + 2 + t)) (v 1)) (m + 1) := rfl
  have o0 : Ot (fun i => ng (v i)) (m + 3) 0 (ng (v 0)) = sm (fun i => rh (v (i + 1)) (v (i + 2)) (v 0)) (m + 1) := by
    unfold Ot
    refine sm_congr fun j _ => ?_
    simp only []
    rw [cr_ng, show 0 + 1 + j = j + 1 by omega, show 0 + 2 + j = j + 2 by omega]
  rw [o1] at c1
  simp only [Nat.zero_add] at c0
  rw [o0] at c0
  have ha := adj_at h 0
  simp only [Nat.zero_add] at ha
  rw [co_ng ha] at c0
  have e3 : 1 + (m + 3) - 1 = 0 + (m + 3) := by omega
  rw [e3, h.per] at c1
  -- the sum of all turns: the first two and the others
  have t : Tn v (m + 3) = (co (v 0) (v 1) (v 2) - up (v 0) (v 1)) + sm (fun i => co (v (i + 1)) (v (i + 2)) (v (i + 3)) - up (v (i + 1)) (v (i + 2))) (m + 1) + (co (v (m + 2)) (v 0) (v 1) - up (v (m + 2)) (v 0)) := by
    unfold Tn
    rw [sm_head, sm]
    have p0 : v (m + 1 + 1 + 1) = v 0 := by rw [show m + 1 + 1 + 1 = 0 + (m + 3) by omega, h.per]
    have p1 : v (m + 1 + 1 + 2) = v 1 := by rw [show m + 1 + 1 + 2 = 1 + (m + 3) by omega, h.per]
    rw [p0, p1]
    have : sm (fun i => co (v (i + 1)) (v (i + 1 + 1)) (v (i + 1 + 2)) - up (v (i + 1)) (v (i + 1 + 1))) (m + 1) = sm (fun i => co (v (i + 1)) (v (i + 2)) (v (i + 3)) - up (v (i + 1)) (v (i + 2))) (m + 1) := rfl
    rw [this]
    simp only [Nat.zero_add, show m + 1 + 1 = m + 2 from rfl]
    omega
  rw [t]
  simp only [show m + 3 - 1 = m + 2 from rfl] at c0
  simp only [show 1 + 1 = 2 from rfl] at c1 tele
  omega
theorem sm_comm (f : Nat → Nat → Int) (n m : Nat) : sm (fun i => sm (fun j => f i j) m) n = sm (fun j => sm (fun i => f i j) n) m := by
  induction n with
  | zero => exact (sm_zero fun i _ => rfl).symm
  | succ n ih =>
    show sm (fun i => sm (fun j => f i j) m) n + sm (fun j => f n j) m = _
    rw [ih, ← sm_add]
    exact sm_congr fun j _ => rfl
theorem sm_mul (f : Nat → Int) (c : Int) (n : Nat) : sm (fun i => c * f i) n = c * sm f n := by
  induction n with
  | zero => simp [sm]
  | succ n ih => simp only [sm]; rw [ih, Int.mul_add]
theorem sm_le {f g : Nat → Int} {n : Nat} (h : ∀ i, i < n → f i ≤ g i) : sm f n ≤ sm g n := by
  induction n with
  | zero => exact Int.le_refl _
  | succ n ih =>
    have := ih (fun i hi => h i (by omega))
    have := h n (by omega)
    simp only [sm]; omega
theorem sm_app (f : Nat → Int) (n m : Nat) : sm f (n + m) = sm f n + sm (fun i => f (n + i)) m := by
  induction m with
  | zero => simp [sm]
  | succ m ih => rw [← Nat.add_assoc]; simp only [sm]; rw [ih]; omega
theorem sm_rev (f : Nat → Int) (n : Nat) : sm (fun i => f (n - 1 - i)) n = sm f n := by
  induction n with
  | zero => rfl
  | succ n ih =>
    rw [sm_head]
    have : sm (fun i => f (n + 1 - 1 - (i + 1))) n = sm (fun i => f (n - 1 - i)) n := sm_congr fun i _ => by rw [show n + 1 - 1 - (i + 1) = n - 1 - i by omega]
    rw [this, ih, sm]
    simp only [Nat.sub_zero, Nat.add_sub_cancel]
    omega
/-- numbers below a limit -/
theorem sm_below (d : Int) (m : Nat) (h0 : 0 ≤ d) (h1 : d ≤ m) : sm (fun i => if (i : Int) < d then 1 else 0) m = d := by
  have : ∀ m : Nat, sm (fun i => if (i : Int) < d then 1 else 0) m = if (m : Int) ≤ d then (m : Int) else d := by
    intro m
    induction m with
    | zero => simp only [sm]; split <;> omega
    | succ m ih => simp only [sm, ih]; (repeat' split) <;> omega
  rw [this]; split <;> omega
theorem sm_above (d : Int) (m : Nat) (h0 : 0 ≤ d) (h1 : d ≤ m) : sm (fun i => if d ≤ (i : Int) then 1 else 0) m = m - d := by
  have : ∀ m : Nat, sm (fun i => if d ≤ (i : Int) then 1 else 0) m = if (m : Int) ≤ d then 0 else m - d := by
    intro m
    induction m with
    | zero => simp only [sm]; split <;> omega
    | succ m ih => simp only [sm, ih]; (repeat' split) <;> omega
  rw [this]; split <;> omega
/-- a sum over a window is a sum over the whole -/
theorem sm_win (f : Nat → Int) (lo k n : Nat) (h : lo + k ≤ n) : sm (fun i => if lo ≤ i ∧ i < lo + k then f i else 0) n = sm (fun i => f (lo + i)) k := by
  obtain ⟨r, rfl⟩ : ∃ r, n = lo + (k + r) := ⟨n - lo - k, by omega⟩
  rw [sm_app, sm_app]
  rw [sm_zero (fun i hi => by rw [if_neg (by omega)]), Int.zero_add]
  have : sm (fun i => if lo ≤ lo + (k + i) ∧ lo + (k + i) < lo + k then f (lo + (k + i)) else 0) r = 0 := sm_zero fun i _ => by rw [if_neg (by omega)]
  rw [this, Int.add_zero]
  exact sm_congr fun i hi => by rw [if_pos (by omega)]
/-- where a line that goes up crosses a level -/
theorem ceil (a b : Pt) (h : a.2 < b.2) (y : Int) : ∃ c : Int, ∀ x : Int, 0 < tw a b (x, y) ↔ x < c := by
  refine ⟨-((-((b.1 - a.1) * (y - a.2) + a.1 * (b.2 - a.2))) / (b.2 - a.2)), fun x => ?_⟩
  have e : tw a b (x, y) = ((b.1 - a.1) * (y - a.2) + a.1 * (b.2 - a.2)) - x * (b.2 - a.2) := by unfold tw; grind
  rw [e]
  have := Int.le_ediv_iff_mul_le (c := b.2 - a.2) (a := -x) (b := -((b.1 - a.1) * (y - a.2) + a.1 * (b.2 - a.2))) (by omega)
  rw [Int.neg_mul] at this
  generalize (b.1 - a.1) * (y - a.2) + a.1 * (b.2 - a.2) = K at *
  generalize x * (b.2 - a.2) = X at *
  generalize -K / (b.2 - a.2) = q at *
  omega
theorem tw_turned (a b : Pt) (x y : Int) : tw a b (a.1 + b.1 - x, a.2 + b.2 - y) = - tw a b (x, y) := by unfold tw; grind
def bx (N : Nat) (i j : Nat) : Pt := ((i : Int) - N, (j : Int) - N)
/-- the sum over all points of a box -/
def bs (N : Nat) (f : Pt → Int) : Int := sm (fun j => sm (fun i => f (bx N i j)) (2 * N + 1)) (2 * N + 1)
theorem bs_congr {N : Nat} {f g : Pt → Int} (h : ∀ p : Pt, f p = g p) : bs N f = bs N g :=
  sm_congr fun _ _ => sm_congr fun _ _ => h _
theorem bs_neg (N : Nat) (f : Pt → Int) : bs N (fun p => - f p) = - bs N f := by
  unfold bs; rw [← sm_neg]; exact sm_congr fun j _ => sm_neg _ _
theorem bs_add (N : Nat) (f g : Pt → Int) : bs N (fun p => f p + g p) = bs N f + bs N g := by
  unfold bs; rw [← sm_add]; exact sm_congr fun j _ => sm_add _ _ _
theorem bs_zero {N : Nat} {f : Pt → Int} (h : ∀ p : Pt, f p = 0) : bs N f = 0 := sm_zero fun _ _ => sm_zero fun _ _ => h _
theorem bs_sm (N : Nat) (f : Nat → Pt → Int) (n : Nat) : bs N (fun p => sm (fun k => f k p) n) = sm (fun k => bs N (f k)) n := by
  induction n with
  | zero => exact bs_zero fun _ => rfl
  | succ n ih =>
    show bs N (fun p => sm (fun k => f k p) n + f n p) = _
    rw [bs_add, ih]; rfl
structure InBox (N : Nat) (a : Pt) : Prop where
  x0 : -(N : Int) ≤ a.1
  x1 : a.1 ≤ N
  y0 : -(N : Int) ≤ a.2
  y1 : a.2 ≤ N
/-- ONE LINE: what it counts, to both sides -/
theorem line_up {N : Nat} {a b : Pt} (ha : InBox N a) (hb : InBox N b) (h : a.2 < b.2) : bs N (fun p => cr a b p + rh a b p) = (b.2 - a.2) * (a.1 + b.1) := by
  obtain ⟨a0, a1, a2, a3⟩ := ha
  obtain ⟨b0, b1, b2, b3⟩ := hb
  rw [bs_add]
  have C : ∀ y : Int, ∃ c : Int, (∀ x : Int, 0 < tw a b (x, y) ↔ x < c) := ceil a b h
  -- the rows of one count
  have r1 : bs N (cr a b) = sm (fun t => sm (fun i => if 0 < tw a b ((i : Int) - N, a.2 + t) then 1 else 0) (2 * N + 1)) (b.2 - a.2).toNat := by
    have w := sm_win (fun j => sm (fun i => if 0 < tw a b ((i : Int) - N, (j : Int) - N) then 1 else 0) (2 * N + 1)) (a.2 + N).toNat (b.2 - a.2).toNat (2 * N + 1) (by omega)
    have e : sm (fun t => sm (fun i => if 0 < tw a b ((i : Int) - N, a.2 + t) then (1 : Int) else 0) (2 * N + 1)) (b.2 - a.2).toNat
        = sm (fun i_1 => sm (fun i => if 0 < tw a b ((i : Int) - N, (((a.2 + N).toNat + i_1 : Nat) : Int) - N) then (1 : Int) else 0) (2 * N + 1)) (b.2 - a.2).toNat :=
      sm_congr fun t _ => by rw [show (((a.2 + N).toNat + t : Nat) : Int) - N = a.2 + t by omega]
    rw [e, ← w]
    refine sm_congr fun j hj => ?_
    by_cases c : (a.2 + N).toNat ≤ j ∧ j < (a.2 + N).toNat + (b.2 - a.2).toNat
    · rw [if_pos c]
      refine sm_congr fun i _ => ?_
      show cr a b ((i : Int) - N, (j : Int) - N) = _
      rw [cr_up (by omega)]
      by_cases t : 0 < tw a b ((i : Int) - N, (j : Int) - N)
      · rw [if_pos t, if_pos ⟨by simp only []; omega, by simp only []; omega, t⟩]
      · rw [if_neg t, if_neg (fun w => t w.2.2)]
    · rw [if_neg c]
      refine sm_zero fun i _ => ?_
      show cr a b ((i : Int) - N, (j : Int) - N) = _
      rw [cr_up (by omega), if_neg (by simp only []; omega)]
  have r2 : bs N (rh a b) = sm (fun t => - sm (fun i => if tw a b ((i : Int) - N, b.2 - t) < 0 then 1 else 0) (2 * N + 1)) (b.2 - a.2).toNat := by
    have w := sm_win (fun j => - sm (fun i => if tw a b ((i : Int) - N, (j : Int) - N) < 0 then 1 else 0) (2 * N + 1)) (a.2 + 1 + N).toNat (b.2 - a.2).toNat (2 * N + 1) (by omega)
    have e : sm (fun t => - sm (fun i => if tw a b ((i : Int) - N, b.2 - t) < 0 then (1 : Int) else 0) (2 * N + 1)) (b.2 - a.2).toNat
        = sm (fun i_1 => - sm (fun i => if tw a b ((i : Int) - N, (((a.2 + 1 + N).toNat + i_1 : Nat) : Int) - N) < 0 then (1 : Int) else 0) (2 * N + 1)) (b.2 - a.2).toNat := by
      rw [← sm_rev]
      exact sm_congr fun t ht => by rw [show (((a.2 + 1 + N).toNat + t : Nat) : Int) - N = b.2 - (((b.2 - a.2).toNat - 1 - t : Nat) : Int) by omega]
    rw [e, ← w]
    refine sm_congr fun j hj => ?_
    by_cases c : (a.2 + 1 + N).toNat ≤ j ∧ j < (a.2 + 1 + N).toNat + (b.2 - a.2).toNat
    · rw [if_pos c, ← sm_neg]
      refine sm_congr fun i _ => ?_
      show rh a b ((i : Int) - N, (j : Int) - N) = _
      rw [rh_up (by omega)]
      by_cases t : tw a b ((i : Int) - N, (j : Int) - N) < 0
      · rw [if_pos t, if_pos ⟨by simp only []; omega, by simp only []; omega, t⟩]
      · rw [if_neg t, if_neg (fun w => t w.2.2)]; rfl
    · rw [if_neg c]
      refine sm_zero fun i _ => ?_
      show rh a b ((i : Int) - N, (j : Int) - N) = _
      rw [rh_up (by omega), if_neg (by simp only []; omega)]
  rw [r1, r2, ← sm_add]
  have row : ∀ t : Nat, t < (b.2 - a.2).toNat → sm (fun i => if 0 < tw a b ((i : Int) - N, a.2 + t) then 1 else 0) (2 * N + 1) + - sm (fun i => if tw a b ((i : Int) - N, b.2 - t) < 0 then 1 else 0) (2 * N + 1) = a.1 + b.1 := by
    intro t ht
    obtain ⟨c, hc⟩ := C (a.2 + t)
    have hc2 : ∀ x : Int, tw a b (x, b.2 - t) < 0 ↔ a.1 + b.1 - c + 1 ≤ x := by
      intro x
      have e := tw_turned a b (a.1 + b.1 - x) (a.2 + t)
      rw [show a.1 + b.1 - (a.1 + b.1 - x) = x by omega, show a.2 + b.2 - (a.2 + t) = b.2 - t by omega] at e
      have := hc (a.1 + b.1 - x)
      omega
    -- c is between both ends
    have lim : (c ≤ a.1 ∨ c ≤ b.1) ∧ (a.1 ≤ c ∨ b.1 ≤ c) := by
      have ht' : (t : Int) < b.2 - a.2 := by omega
      constructor
      · refine Classical.byContradiction fun hn => ?_
        by_cases hab : a.1 ≤ b.1
        · have := (hc b.1).2 (by omega)
          have e : tw a b (b.1, a.2 + t) = - ((b.1 - a.1) * (b.2 - a.2 - t)) := by unfold tw; grind
          have m := Int.mul_nonneg (show 0 ≤ b.1 - a.1 by omega) (show 0 ≤ b.2 - a.2 - t by omega)
          omega
        · have := (hc a.1).2 (by omega)
          have e : tw a b (a.1, a.2 + t) = - ((a.1 - b.1) * t) := by unfold tw; grind
          have m := Int.mul_nonneg (show 0 ≤ a.1 - b.1 by omega) (show (0 : Int) ≤ t by omega)
          omega
      · refine Classical.byContradiction fun hn => ?_
        by_cases hab : a.1 ≤ b.1
        · have := mt (hc (a.1 - 1)).1 
          have h1 : ¬ 0 < tw a b (a.1 - 1, a.2 + t) := fun w => by have := (hc _).1 w; omega
          have e : tw a b (a.1 - 1, a.2 + t) = (b.1 - a.1) * t + (b.2 - a.2) := by unfold tw; grind
          have m := Int.mul_nonneg (show 0 ≤ b.1 - a.1 by omega) (show (0 : Int) ≤ t by omega)
          omega
        · have h1 : ¬ 0 < tw a b (b.1 - 1, a.2 + t) := fun w => by have := (hc _).1 w; omega
          have e : tw a b (b.1 - 1, a.2 + t) = (a.1 - b.1) * (b.2 - a.2 - t) + (b.2 - a.2) := by unfold tw; grind
          have m := Int.mul_nonneg (show 0 ≤ a.1 - b.1 by omega) (show 0 ≤ b.2 - a.2 - t by omega)
          omega
    have s1 := sm_below (c + N) (2 * N + 1) (by omega) (by omega)
    have s2 := sm_above (a.1 + b.1 - c + 1 + N) (2 * N + 1) (by omega) (by omega)
    have q1 : sm (fun i => if 0 < tw a b ((i : Int) - N, a.2 + t) then (1 : Int) else 0) (2 * N + 1) = sm (fun i => if (i : Int) < c + N then (1 : Int) else 0) (2 * N + 1) :=
      sm_congr fun i _ => by
        have := hc ((i : Int) - N)
        by_cases w : 0 < tw a b ((i : Int) - N, a.2 + t)
        · rw [if_pos w, if_pos (by have := this.1 w; omega)]
        · rw [if_neg w, if_neg (by intro w'; exact w (this.2 (by omega)))]
    have q2 : sm (fun i => if tw a b ((i : Int) - N, b.2 - t) < 0 then (1 : Int) else 0) (2 * N + 1) = sm (fun i => if a.1 + b.1 - c + 1 + N ≤ (i : Int) then (1 : Int) else 0) (2 * N + 1) :=
      sm_congr fun i _ => by
        have := hc2 ((i : Int) - N)
        by_cases w : tw a b ((i : Int) - N, b.2 - t) < 0
        · rw [if_pos w, if_pos (by have := this.1 w; omega)]
        · rw [if_neg w, if_neg (by intro w'; exact w (this.2 (by omega)))]
    rw [q1, q2, s1, s2]
    omega
  rw [sm_congr row]
  have cst : ∀ (c : Int) (n : Nat), sm (fun _ => c) n = n * c := by
    intro c n
    induction n with
    | zero => simp [sm]
    | succ n ih => simp only [sm]; rw [ih]; grind
  rw [cst, Int.toNat_of_nonneg (by omega)]
theorem line_any {N : Nat} {a b : Pt} (ha : InBox N a) (hb : InBox N b) : bs N (fun p => cr a b p + rh a b p) = (b.2 - a.2) * (a.1 + b.1) := by
  rcases Int.lt_trichotomy a.2 b.2 with h | h | h
  · exact line_up ha hb h
  · rw [show b.2 - a.2 = 0 by omega, Int.zero_mul]
    refine bs_zero fun p => ?_
    unfold cr rh
    (repeat' split) <;> omega
  · have := line_up hb ha h
    have e : bs N (fun p => cr a b p + rh a b p) = - bs N (fun p => cr b a p + rh b a p) := by
      rw [← bs_neg]
      exact bs_congr fun p => by rw [cr_swap a b p, rh_swap a b p]; omega
    rw [e, this]; grind
/-- twice the area -/
def Ar (v : Nat → Pt) (n : Nat) : Int := sm (fun j => (v j).1 * (v (j + 1)).2 - (v (j + 1)).1 * (v j).2) n
/-- TWICE THE AREA is the sum over all points of both counts -/
theorem Ar_eq {v : Nat → Pt} {n N : Nat} (hp : ∀ i, v (i + n) = v i) (hN : ∀ i, InBox N (v i)) : Ar v n = bs N (fun p => WN v n p + WN (fun i => ng (v i)) n (ng p)) := by
  have e : bs N (fun p => WN v n p + WN (fun i => ng (v i)) n (ng p)) = bs N (fun p => sm (fun j => cr (v j) (v (j + 1)) p + rh (v j) (v (j + 1)) p) n) :=
    bs_congr fun p => by
      rw [sm_add]
      unfold WN
      congr 1
      exact sm_congr fun j _ => cr_ng _ _ _
  rw [e, bs_sm]
  have : sm (fun k => bs N (fun p => cr (v k) (v (k + 1)) p + rh (v k) (v (k + 1)) p)) n = sm (fun j => ((v j).1 * (v (j + 1)).2 - (v (j + 1)).1 * (v j).2) + ((v (j + 1)).1 * (v (j + 1)).2 - (v j).1 * (v j).2)) n :=
    sm_congr fun j _ => by rw [line_any (hN _) (hN _)]; grind
  rw [this, sm_add]
  have t := sm_tele (fun j => (v j).1 * (v j).2) n
  have p0 := hp 0
  rw [Nat.zero_add] at p0
  rw [p0] at t
  rw [t]
  unfold Ar
  omega
end Go.Proofs.Ytjkfdcjfoliboaa.MJ
