/- joined: Ze Zf Sax Zh El Zi Zl Zg K La Ls Twz Zp Lk Hm V W Na -/
import Derived.Test.YtjkfdcjfoliboaaZAroundOf2
import Derived.Deep.CutRange
import Derived.BigRegion
import Derived.Deep.LoopGhost
import Derived.Laws.OwnMore
import Derived.OwnWalk
import Derived.RegionTactic
/- plain mathematics: once around, and areas -/
namespace Go.Proofs.Ytjkfdcjfoliboaa.MJ
set_option linter.unusedVariables false
set_option linter.unusedSimpArgs false
def ng (p : Pt) : Pt := (-p.1, -p.2)
theorem tw_ng (a b c : Pt) : tw (ng a) (ng b) (ng c) = tw a b c := by unfold tw ng; grind
theorem cr_ng (a b p : Pt) : cr (ng a) (ng b) (ng p) = rh a b p := by
  unfold cr rh
  rw [tw_ng]
  simp only [ng]
  (repeat' split) <;> omega
theorem rh_ng (a b p : Pt) : rh (ng a) (ng b) (ng p) = cr a b p := by
  unfold cr rh
  rw [tw_ng]
  simp only [ng]
  (repeat' split) <;> omega
theorem up_ng {a b : Pt} (h : a ≠ b) : up (ng a) (ng b) = 1 - up a b := by
  have e : a.2 = b.2 → a.1 ≠ b.1 := fun e e' => h (Prod.ext e' e)
  unfold up ng
  simp only []
  (repeat' split) <;> omega
theorem ng_ng (p : Pt) : ng (ng p) = p := Prod.ext (by simp [ng]) (by simp [ng])
theorem ng_inj {a b : Pt} (h : ng a = ng b) : a = b := by rw [← ng_ng a, h, ng_ng]
theorem on_ng {a b p : Pt} : on (ng a) (ng b) (ng p) ↔ on a b p := by
  unfold on
  rw [tw_ng]
  simp only [ng]
  omega
theorem in_ng {a b p : Pt} (h : In a b p) : In (ng a) (ng b) (ng p) := by
  unfold In at *
  rw [tw_ng]
  simp only [ng]
  omega
theorem meets_ng {a b c d : Pt} : meets (ng a) (ng b) (ng c) (ng d) ↔ meets a b c d := by
  unfold meets
  rw [on_ng, on_ng, on_ng, on_ng, tw_ng, tw_ng, tw_ng, tw_ng]
theorem adj_ng {a b c : Pt} (h : adj a b c) : adj (ng a) (ng b) (ng c) := by
  obtain ⟨h1, h2, h3⟩ := h
  refine ⟨fun e => h1 (ng_inj e), fun e => h2 (ng_inj e), fun e => ?_⟩
  rw [tw_ng] at e
  have := h3 e
  simp only [ng]
  omega
theorem simple_ng {v : Nat → Pt} {n : Nat} (h : Simple v n) : Simple (fun i => ng (v i)) n :=
  { three := h.three
    per := fun i => by rw [h.per]
    adj := fun i => adj_ng (h.adj i)
    apart := fun i j h1 h2 w => h.apart i j h1 h2 (meets_ng.1 w) }
theorem poly_ng {v : Nat → Pt} {n : Nat} (h : Poly v n) : Poly (fun i => ng (v i)) n :=
  { toSimple := simple_ng h.toSimple
    turn := fun i w => h.turn i (by rw [tw_ng] at w; exact w) }
/-- a corner's own part, told from the other end -/
theorem co_ng {a b c : Pt} (h : adj a b c) : co (ng a) (ng b) (ng c) = co a b c - up a b - up b c + 1 := by
  have l := local_ a b c h
  unfold co
  rw [cr_ng, rh_ng, up_ng h.2.1]
  omega
/-- the northern corner, of several the western one -/
theorem north {v : Nat → Pt} {n : Nat} (h : Simple v n) : ∃ k, ∀ j, (v j).2 < (v k).2 ∨ ((v j).2 = (v k).2 ∧ (v k).1 ≤ (v j).1) := by
  have h3 := h.three
  have : ∀ m, 0 < m → ∃ k, k < m ∧ ∀ j, j < m → (v j).2 < (v k).2 ∨ ((v j).2 = (v k).2 ∧ (v k).1 ≤ (v j).1) := by
    intro m
    induction m with
    | zero => intro h; omega
    | succ m ih =>
      intro _
      by_cases h0 : m = 0
      · subst h0; exact ⟨0, by omega, fun j hj => by rw [show j = 0 by omega]; omega⟩
      · obtain ⟨k, hk, hm⟩ := ih (by omega)
        by_cases hc : (v m).2 < (v k).2 ∨ ((v m).2 = (v k).2 ∧ (v k).1 ≤ (v m).1)
        · refine ⟨k, by omega, fun j hj => ?_⟩
          by_cases hj' : j = m
          · subst hj'; exact hc
          · exact hm j (by omega)
        · refine ⟨m, by omega, fun j hj => ?_⟩
          by_cases hj' : j = m
          · subst hj'; omega
          · have := hm j (by omega); omega
  obtain ⟨k, _, hm⟩ := this n (by omega)
  exact ⟨k, fun j => by rw [per_mod h.per j]; exact hm _ (Nat.mod_lt _ (by omega))⟩
/-- the side is the same from both ends -/
theorem Cs_ng {v : Nat → Pt} {n : Nat} (h : Simple v n) : Cs (fun i => ng (v i)) n = Cs v n := by
  obtain ⟨k, hk⟩ := north h
  rw [Cs_at h k, Cs_at (simple_ng h) k]
  have z1 : Ot v n k (v k) = 0 := sm_zero fun i _ => by
    have h1 := hk (k + 1 + i)
    have h2 := hk (k + 2 + i)
    unfold cr
    rw [if_neg (by omega), if_neg (by omega)]
  have z2 : Ot (fun i => ng (v i)) n k (ng (v k)) = 0 := sm_zero fun i _ => by
    have h1 := hk (k + 1 + i)
    have h2 := hk (k + 2 + i)
    show cr (ng (v (k + 1 + i))) (ng (v (k + 2 + i))) (ng (v k)) = 0
    rw [cr_ng]
    generalize v (k + 1 + i) = a at *
    generalize v (k + 2 + i) = b at *
    generalize v k = p at *
    have t1 : a.2 = p.2 → tw a b p = (a.1 - p.1) * (b.2 - p.2) := fun e => by unfold tw; rw [← e]; grind
    have t2 : b.2 = p.2 → tw a b p = (b.1 - p.1) * (p.2 - a.2) := fun e => by unfold tw; rw [← e]; grind
    unfold rh
    have s1 := signs (a.1 - p.1) (b.2 - p.2)
    have s2 := signs (b.1 - p.1) (p.2 - a.2)
    generalize (a.1 - p.1) * (b.2 - p.2) = m1 at *
    generalize (b.1 - p.1) * (p.2 - a.2) = m2 at *
    (repeat' split) <;> omega
  have ha := adj_at h k
  have h1 := hk (k + n - 1)
  have h2 := hk (k + 1)
  rw [z1]
  show Ot (fun i => ng (v i)) n k (ng (v k)) + co (ng (v (k + n - 1))) (ng (v k)) (ng (v (k + 1))) = _
  rw [z2, co_ng ha]
  have u1 : up (v (k + n - 1)) (v k) = 1 := by
    have e : (v (k + n - 1)).2 = (v k).2 → (v (k + n - 1)).1 ≠ (v k).1 := fun e e' => ha.1 (Prod.ext e' e)
    unfold up
    (repeat' split) <;> omega
  have u2 : up (v k) (v (k + 1)) = 0 := by
    unfold up
    (repeat' split) <;> omega
  omega
/-- the turns of a polygon, told by the level line -/
def Tn (v : Nat → Pt) (n : Nat) : Int := sm (fun k => co (v k) (v (k + 1)) (v (k + 2)) - up (v k) (v (k + 1))) n
theorem sm_neg (f : Nat → Int) (n : Nat) : sm (fun i => - f i) n = - sm f n := by
  induction n with
  | zero => rfl
  | succ n ih => simp only [sm]; omega
/-- ONCE AROUND: the directions of a polygon's lines turn once -/
theorem Tn_eq {v : Nat → Pt} {n : Nat} (h : Simple v n) : Tn v n = 2 * Cs v n - 1 := by
  have h3 := h.three
  obtain ⟨m, rfl⟩ : ∃ m, n = m + 3 := ⟨n - 3, by omega⟩
  -- H i: the lines i + 1 .. n - 1 at corner i
  have step : ∀ i, 1 ≤ i → i ≤ m + 1 →
      sm (fun t => cr (v (i + 2 + t)) (v (i + 3 + t)) (v (i + 1))) (m + 1 - i)
      = sm (fun t => cr (v (i + 1 + t)) (v (i + 2 + t)) (v i)) (m + 2 - i)
        + rh (v i) (v (i + 1)) (v 0) - (co (v i) (v (i + 1)) (v (i + 2)) - up (v i) (v (i + 1))) := by
    intro i h1 h2
    have e : m + 2 - i = m + 1 - i + 1 := by omega
    rw [e, sm_head]
    have hc : sm (fun t => cr (v (i + 2 + t)) (v (i + 3 + t)) (v (i + 1)) - cr (v (i + 2 + t)) (v (i + 3 + t)) (v i)) (m + 1 - i)
        = rh (v i) (v (i + 1)) (v 0) - rh (v i) (v (i + 1)) (v (i + 2)) := by
      have ht := sm_tele (fun t => rh (v i) (v (i + 1)) (v (i + 2 + t))) (m + 1 - i)
      simp only [Nat.add_zero] at ht
      have e0 : v (i + 2 + (m + 1 - i)) = v 0 := by
        rw [show i + 2 + (m + 1 - i) = 0 + (m + 3) by omega, h.per]
      rw [e0] at ht
      rw [← ht]
      refine sm_congr fun t ht => ?_
      have := cell (v i) (v (i + 1)) (v (i + 2 + t)) (v (i + 3 + t)) (by
        have := h.apart i (i + 2 + t) (by omega) (by omega)
        rwa [show i + 2 + t + 1 = i + 3 + t by omega] at this)
      rw [this, show i + 2 + (t + 1) = i + 3 + t by omega]
    rw [sm_sub] at hc
    have hl := local_ (v i) (v (i + 1)) (v (i + 2)) (h.adj i)
    have e2 : sm (fun t => cr (v (i + 1 + (t + 1))) (v (i + 2 + (t + 1))) (v i)) (m + 1 - i) = sm (fun t => cr (v (i + 2 + t)) (v (i + 3 + t)) (v i)) (m + 1 - i) :=
      sm_congr fun t _ => by rw [show i + 1 + (t + 1) = i + 2 + t by omega, show i + 2 + (t + 1) = i + 3 + t by omega]
    rw [e2]
    unfold co
    simp only [Nat.add_zero]
    omega
  have tele := sm_tele (fun i => sm (fun t => cr (v (i + 1 + 1 + t)) (v (i + 1 + 2 + t)) (v (i + 1))) (m + 1 - i)) (m + 1)
  have e : sm (fun i => sm (fun t => cr (v (i + 1 + 1 + 1 + t)) (v (i + 1 + 1 + 2 + t)) (v (i + 1 + 1))) (m + 1 - (i + 1)) - sm (fun t => cr (v (i + 1 + 1 + t)) (v (i + 1 + 2 + t)) (v (i + 1))) (m + 1 - i)) (m + 1)
      = sm (fun i => rh (v (i + 1)) (v (i + 2)) (v 0) - (co (v (i + 1)) (v (i + 2)) (v (i + 3)) - up (v (i + 1)) (v (i + 2)))) (m + 1) := by
    refine sm_congr fun i hi => ?_
    have s := step (i + 1) (by omega) (by omega)
    have e1 : m + 1 - (i + 1) = m - i := by omega
    have e2 : m + 2 - (i + 1) = m + 1 - i := by omega
    rw [e1, e2] at s
    rw [e1]
    simp only [show i + 1 + 1 + 1 = i + 3 from rfl, show i + 1 + 1 + 2 = i + 4 from rfl, show i + 1 + 1 = i + 2 from rfl] at s ⊢
    omega
  rw [e, sm_sub] at tele
  have z0 : ∀ f, sm f 0 = 0 := fun _ => rfl
  simp only [Nat.sub_self, z0, Nat.sub_zero, Nat.zero_add] at tele
  have c1 := Cs_at h 1
  have c0 := Cs_at (simple_ng h) 0
  rw [Cs_ng h] at c0
  have o1 : Ot v (m + 3) 1 (v 1) = sm (fun t => cr (v (1 + 1 + t)) (v (1 + 2 + t)) (v 1)) (m + 1) := rfl
  have o0 : Ot (fun i => ng (v i)) (m + 3) 0 (ng (v 0)) = sm (fun i => rh (v (i + 1)) (v (i + 2)) (v 0)) (m + 1) := by
    unfold Ot
    refine sm_congr fun j _ => ?_
    simp only []
    rw [cr_ng, show 0 + 1 + j = j + 1 by omega, show 0 + 2 + j = j + 2 by omega]
  rw [o1] at c1
  simp only [Nat.zero_add] at c0
  rw [o0] at c0
  have ha := adj_at h 0
  simp only [Nat.zero_add] at ha
  rw [co_ng ha] at c0
  have e3 : 1 + (m + 3) - 1 = 0 + (m + 3) := by omega
  rw [e3, h.per] at c1
  -- the sum of all turns: the first two and the others
  have t : Tn v (m + 3) = (co (v 0) (v 1) (v 2) - up (v 0) (v 1)) + sm (fun i => co (v (i + 1)) (v (i + 2)) (v (i + 3)) - up (v (i + 1)) (v (i + 2))) (m + 1) + (co (v (m + 2)) (v 0) (v 1) - up (v (m + 2)) (v 0)) := by
    unfold Tn
    rw [sm_head, sm]
    have p0 : v (m + 1 + 1 + 1) = v 0 := by rw [show m + 1 + 1 + 1 = 0 + (m + 3) by omega, h.per]
    have p1 : v (m + 1 + 1 + 2) = v 1 := by rw [show m + 1 + 1 + 2 = 1 + (m + 3) by omega, h.per]
    rw [p0, p1]
    have : sm (fun i => co (v (i + 1)) (v (i + 1 + 1)) (v (i + 1 + 2)) - up (v (i + 1)) (v (i + 1 + 1))) (m + 1) = sm (fun i => co (v (i + 1)) (v (i + 2)) (v (i + 3)) - up (v (i + 1)) (v (i + 2))) (m + 1) := rfl
    rw [this]
    simp only [Nat.zero_add, show m + 1 + 1 = m + 2 from rfl]
    omega
  rw [t]
  simp only [show m + 3 - 1 = m + 2 from rfl] at c0
  simp only [show 1 + 1 = 2 from rfl] at c1 tele
  omega
theorem sm_comm (f : Nat → Nat → Int) (n m : Nat) : sm (fun i => sm (fun j => f i j) m) n = sm (fun j => sm (fun i => f i j) n) m := by
  induction n with
  | zero => exact (sm_zero fun i _ => rfl).symm
  | succ n ih =>
    show sm (fun i => sm (fun j => f i j) m) n + sm (fun j => f n j) m = _
    rw [ih, ← sm_add]
    exact sm_congr fun j _ => rfl
theorem sm_mul (f : Nat → Int) (c : Int) (n : Nat) : sm (fun i => c * f i) n = c * sm f n := by
  induction n with
  | zero => simp [sm]
  | succ n ih => simp only [sm]; rw [ih, Int.mul_add]
theorem sm_le {f g : Nat → Int} {n : Nat} (h : ∀ i, i < n → f i ≤ g i) : sm f n ≤ sm g n := by
  induction n with
  | zero => exact Int.le_refl _
  | succ n ih =>
    have := ih (fun i hi => h i (by omega))
    have := h n (by omega)
    simp only [sm]; omega
theorem sm_app (f : Nat → Int) (n m : Nat) : sm f (n + m) = sm f n + sm (fun i => f (n + i)) m := by
  induction m with
  | zero => simp [sm]
  | succ m ih => rw [← Nat.add_assoc]; simp only [sm]; rw [ih]; omega
theorem sm_rev (f : Nat → Int) (n : Nat) : sm (fun i => f (n - 1 - i)) n = sm f n := by
  induction n with
  | zero => rfl
  | succ n ih =>
    rw [sm_head]
    have : sm (fun i => f (n + 1 - 1 - (i + 1))) n = sm (fun i => f (n - 1 - i)) n := sm_congr fun i _ => by rw [show n + 1 - 1 - (i + 1) = n - 1 - i by omega]
    rw [this, ih, sm]
    simp only [Nat.sub_zero, Nat.add_sub_cancel]
    omega
/-- numbers below a limit -/
theorem sm_below (d : Int) (m : Nat) (h0 : 0 ≤ d) (h1 : d ≤ m) : sm (fun i => if (i : Int) < d then 1 else 0) m = d := by
  have : ∀ m : Nat, sm (fun i => if (i : Int) < d then 1 else 0) m = if (m : Int) ≤ d then (m : Int) else d := by
    intro m
    induction m with
    | zero => simp only [sm]; split <;> omega
    | succ m ih => simp only [sm, ih]; (repeat' split) <;> omega
  rw [this]; split <;> omega
theorem sm_above (d : Int) (m : Nat) (h0 : 0 ≤ d) (h1 : d ≤ m) : sm (fun i => if d ≤ (i : Int) then 1 else 0) m = m - d := by
  have : ∀ m : Nat, sm (fun i => if d ≤ (i : Int) then 1 else 0) m = if (m : Int) ≤ d then 0 else m - d := by
    intro m
    induction m with
    | zero => simp only [sm]; split <;> omega
    | succ m ih => simp only [sm, ih]; (repeat' split) <;> omega
  rw [this]; split <;> omega
/-- a sum over a window is a sum over the whole -/
theorem sm_win (f : Nat → Int) (lo k n : Nat) (h : lo + k ≤ n) : sm (fun i => if lo ≤ i ∧ i < lo + k then f i else 0) n = sm (fun i => f (lo + i)) k := by
  obtain ⟨r, rfl⟩ : ∃ r, n = lo + (k + r) := ⟨n - lo - k, by omega⟩
  rw [sm_app, sm_app]
  rw [sm_zero (fun i hi => by rw [if_neg (by omega)]), Int.zero_add]
  have : sm (fun i => if lo ≤ lo + (k + i) ∧ lo + (k + i) < lo + k then f (lo + (k + i)) else 0) r = 0 := sm_zero fun i _ => by rw [if_neg (by omega)]
  rw [this, Int.add_zero]
  exact sm_congr fun i hi => by rw [if_pos (by omega)]
/-- where a line that goes up crosses a level -/
theorem ceil (a b : Pt) (h : a.2 < b.2) (y : Int) : ∃ c : Int, ∀ x : Int, 0 < tw a b (x, y) ↔ x < c := by
  refine ⟨-((-((b.1 - a.1) * (y - a.2) + a.1 * (b.2 - a.2))) / (b.2 - a.2)), fun x => ?_⟩
  have e : tw a b (x, y) = ((b.1 - a.1) * (y - a.2) + a.1 * (b.2 - a.2)) - x * (b.2 - a.2) := by unfold tw; grind
  rw [e]
  have := Int.le_ediv_iff_mul_le (c := b.2 - a.2) (a := -x) (b := -((b.1 - a.1) * (y - a.2) + a.1 * (b.2 - a.2))) (by omega)
  rw [Int.neg_mul] at this
  generalize (b.1 - a.1) * (y - a.2) + a.1 * (b.2 - a.2) = K at *
  generalize x * (b.2 - a.2) = X at *
  generalize -K / (b.2 - a.2) = q at *
  omega
theorem tw_turned (a b : Pt) (x y : Int) : tw a b (a.1 + b.1 - x, a.2 + b.2 - y) = - tw a b (x, y) := by unfold tw; grind
def bx (N : Nat) (i j : Nat) : Pt := ((i : Int) - N, (j : Int) - N)
/-- the sum over all points of a box -/
def bs (N : Nat) (f : Pt → Int) : Int := sm (fun j => sm (fun i => f (bx N i j)) (2 * N + 1)) (2 * N + 1)
theorem bs_congr {N : Nat} {f g : Pt → Int} (h : ∀ p : Pt, f p = g p) : bs N f = bs N g :=
  sm_congr fun _ _ => sm_congr fun _ _ => h _
theorem bs_neg (N : Nat) (f : Pt → Int) : bs N (fun p => - f p) = - bs N f := by
  unfold bs; rw [← sm_neg]; exact sm_congr fun j _ => sm_neg _ _
theorem bs_add (N : Nat) (f g : Pt → Int) : bs N (fun p => f p + g p) = bs N f + bs N g := by
  unfold bs; rw [← sm_add]; exact sm_congr fun j _ => sm_add _ _ _
theorem bs_zero {N : Nat} {f : Pt → Int} (h : ∀ p : Pt, f p = 0) : bs N f = 0 := sm_zero fun _ _ => sm_zero fun _ _ => h _
theorem bs_sm (N : Nat) (f : Nat → Pt → Int) (n : Nat) : bs N (fun p => sm (fun k => f k p) n) = sm (fun k => bs N (f k)) n := by
  induction n with
  | zero => exact bs_zero fun _ => rfl
  | succ n ih =>
    show bs N (fun p => sm (fun k => f k p) n + f n p) = _
    rw [bs_add, ih]; rfl
structure InBox (N : Nat) (a : Pt) : Prop where
  x0 : -(N : Int) ≤ a.1
  x1 : a.1 ≤ N
  y0 : -(N : Int) ≤ a.2
  y1 : a.2 ≤ N
/-- ONE LINE: what it counts, to both sides -/
theorem line_up {N : Nat} {a b : Pt} (ha : InBox N a) (hb : InBox N b) (h : a.2 < b.2) : bs N (fun p => cr a b p + rh a b p) = (b.2 - a.2) * (a.1 + b.1) := by
  obtain ⟨a0, a1, a2, a3⟩ := ha
  obtain ⟨b0, b1, b2, b3⟩ := hb
  rw [bs_add]
  have C : ∀ y : Int, ∃ c : Int, (∀ x : Int, 0 < tw a b (x, y) ↔ x < c) := ceil a b h
  -- the rows of one count
  have r1 : bs N (cr a b) = sm (fun t => sm (fun i => if 0 < tw a b ((i : Int) - N, a.2 + t) then 1 else 0) (2 * N + 1)) (b.2 - a.2).toNat := by
    have w := sm_win (fun j => sm (fun i => if 0 < tw a b ((i : Int) - N, (j : Int) - N) then 1 else 0) (2 * N + 1)) (a.2 + N).toNat (b.2 - a.2).toNat (2 * N + 1) (by omega)
    have e : sm (fun t => sm (fun i => if 0 < tw a b ((i : Int) - N, a.2 + t) then (1 : Int) else 0) (2 * N + 1)) (b.2 - a.2).toNat
        = sm (fun i_1 => sm (fun i => if 0 < tw a b ((i : Int) - N, (((a.2 + N).toNat + i_1 : Nat) : Int) - N) then (1 : Int) else 0) (2 * N + 1)) (b.2 - a.2).toNat :=
      sm_congr fun t _ => by rw [show (((a.2 + N).toNat + t : Nat) : Int) - N = a.2 + t by omega]
    rw [e, ← w]
    refine sm_congr fun j hj => ?_
    by_cases c : (a.2 + N).toNat ≤ j ∧ j < (a.2 + N).toNat + (b.2 - a.2).toNat
    · rw [if_pos c]
      refine sm_congr fun i _ => ?_
      show cr a b ((i : Int) - N, (j : Int) - N) = _
      rw [cr_up (by omega)]
      by_cases t : 0 < tw a b ((i : Int) - N, (j : Int) - N)
      · rw [if_pos t, if_pos ⟨by simp only []; omega, by simp only []; omega, t⟩]
      · rw [if_neg t, if_neg (fun w => t w.2.2)]
    · rw [if_neg c]
      refine sm_zero fun i _ => ?_
      show cr a b ((i : Int) - N, (j : Int) - N) = _
      rw [cr_up (by omega), if_neg (by simp only []; omega)]
  have r2 : bs N (rh a b) = sm (fun t => - sm (fun i => if tw a b ((i : Int) - N, b.2 - t) < 0 then 1 else 0) (2 * N + 1)) (b.2 - a.2).toNat := by
    have w := sm_win (fun j => - sm (fun i => if tw a b ((i : Int) - N, (j : Int) - N) < 0 then 1 else 0) (2 * N + 1)) (a.2 + 1 + N).toNat (b.2 - a.2).toNat (2 * N + 1) (by omega)
    have e : sm (fun t => - sm (fun i => if tw a b ((i : Int) - N, b.2 - t) < 0 then (1 : Int) else 0) (2 * N + 1)) (b.2 - a.2).toNat
        = sm (fun i_1 => - sm (fun i => if tw a b ((i : Int) - N, (((a.2 + 1 + N).toNat + i_1 : Nat) : Int) - N) < 0 then (1 : Int) else 0) (2 * N + 1)) (b.2 - a.2).toNat := by
      rw [← sm_rev]
      exact sm_congr fun t ht => by rw [show (((a.2 + 1 + N).toNat + t : Nat) : Int) - N = b.2 - (((b.2 - a.2).toNat - 1 - t : Nat) : Int) by omega]
    rw [e, ← w]
    refine sm_congr fun j hj => ?_
    by_cases c : (a.2 + 1 + N).toNat ≤ j ∧ j < (a.2 + 1 + N).toNat + (b.2 - a.2).toNat
    · rw [if_pos c, ← sm_neg]
      refine sm_congr fun i _ => ?_
      show rh a b ((i : Int) - N, (j : Int) - N) = _
      rw [rh_up (by omega)]
      by_cases t : tw a b ((i : Int) - N, (j : Int) - N) < 0
      · rw [if_pos t, if_pos ⟨by simp only []; omega, by simp only []; omega, t⟩]
      · rw [if_neg t, if_neg (fun w => t w.2.2)]; rfl
    · rw [if_neg c]
      refine sm_zero fun i _ => ?_
      show rh a b ((i : Int) - N, (j : Int) - N) = _
      rw [rh_up (by omega), if_neg (by simp only []; omega)]
  rw [r1, r2, ← sm_add]
  have row : ∀ t : Nat, t < (b.2 - a.2).toNat → sm (fun i => if 0 < tw a b ((i : Int) - N, a.2 + t) then 1 else 0) (2 * N + 1) + - sm (fun i => if tw a b ((i : Int) - N, b.2 - t) < 0 then 1 else 0) (2 * N + 1) = a.1 + b.1 := by
    intro t ht
    obtain ⟨c, hc⟩ := C (a.2 + t)
    have hc2 : ∀ x : Int, tw a b (x, b.2 - t) < 0 ↔ a.1 + b.1 - c + 1 ≤ x := by
      intro x
      have e := tw_turned a b (a.1 + b.1 - x) (a.2 + t)
      rw [show a.1 + b.1 - (a.1 + b.1 - x) = x by omega, show a.2 + b.2 - (a.2 + t) = b.2 - t by omega] at e
      have := hc (a.1 + b.1 - x)
      omega
    -- c is between both ends
    have lim : (c ≤ a.1 ∨ c ≤ b.1) ∧ (a.1 ≤ c ∨ b.1 ≤ c) := by
      have ht' : (t : Int) < b.2 - a.2 := by omega
      constructor
      · refine Classical.byContradiction fun hn => ?_
        by_cases hab : a.1 ≤ b.1
        · have := (hc b.1).2 (by omega)
          have e : tw a b (b.1, a.2 + t) = - ((b.1 - a.1) * (b.2 - a.2 - t)) := by unfold tw; grind
          have m := Int.mul_nonneg (show 0 ≤ b.1 - a.1 by omega) (show 0 ≤ b.2 - a.2 - t by omega)
          omega
        · have := (hc a.1).2 (by omega)
          have e : tw a b (a.1, a.2 + t) = - ((a.1 - b.1) * t) := by unfold tw; grind
          have m := Int.mul_nonneg (show 0 ≤ a.1 - b.1 by omega) (show (0 : Int) ≤ t by omega)
          omega
      · refine Classical.byContradiction fun hn => ?_
        by_cases hab : a.1 ≤ b.1
        · have := mt (hc (a.1 - 1)).1 
          have h1 : ¬ 0 < tw a b (a.1 - 1, a.2 + t) := fun w => by have := (hc _).1 w; omega
          have e : tw a b (a.1 - 1, a.2 + t) = (b.1 - a.1) * t + (b.2 - a.2) := by unfold tw; grind
          have m := Int.mul_nonneg (show 0 ≤ b.1 - a.1 by omega) (show (0 : Int) ≤ t by omega)
          omega
        · have h1 : ¬ 0 < tw a b (b.1 - 1, a.2 + t) := fun w => by have := (hc _).1 w; omega
          have e : tw a b (b.1 - 1, a.2 + t) = (a.1 - b.1) * (b.2 - a.2 - t) + (b.2 - a.2) := by unfold tw; grind
          have m := Int.mul_nonneg (show 0 ≤ a.1 - b.1 by omega) (show 0 ≤ b.2 - a.2 - t by omega)
          omega
    have s1 := sm_below (c + N) (2 * N + 1) (by omega) (by omega)
    have s2 := sm_above (a.1 + b.1 - c + 1 + N) (2 * N + 1) (by omega) (by omega)
    have q1 : sm (fun i => if 0 < tw a b ((i : Int) - N, a.2 + t) then (1 : Int) else 0) (2 * N + 1) = sm (fun i => if (i : Int) < c + N then (1 : Int) else 0) (2 * N + 1) :=
      sm_congr fun i _ => by
        have := hc ((i : Int) - N)
        by_cases w : 0 < tw a b ((i : Int) - N, a.2 + t)
        · rw [if_pos w, if_pos (by have := this.1 w; omega)]
        · rw [if_neg w, if_neg (by intro w'; exact w (this.2 (by omega)))]
    have q2 : sm (fun i => if tw a b ((i : Int) - N, b.2 - t) < 0 then (1 : Int) else 0) (2 * N + 1) = sm (fun i => if a.1 + b.1 - c + 1 + N ≤ (i : Int) then (1 : Int) else 0) (2 * N + 1) :=
      sm_congr fun i _ => by
        have := hc2 ((i : Int) - N)
        by_cases w : tw a b ((i : Int) - N, b.2 - t) < 0
        · rw [if_pos w, if_pos (by have := this.1 w; omega)]
        · rw [if_neg w, if_neg (by intro w'; exact w (this.2 (by omega)))]
    rw [q1, q2, s1, s2]
    omega
  rw [sm_congr row]
  have cst : ∀ (c : Int) (n : Nat), sm (fun _ => c) n = n * c := by
    intro c n
    induction n with
    | zero => simp [sm]
    | succ n ih => simp only [sm]; rw [ih]; grind
  rw [cst, Int.toNat_of_nonneg (by omega)]
theorem line_any {N : Nat} {a b : Pt} (ha : InBox N a) (hb : InBox N b) : bs N (fun p => cr a b p + rh a b p) = (b.2 - a.2) * (a.1 + b.1) := by
  rcases Int.lt_trichotomy a.2 b.2 with h | h | h
  · exact line_up ha hb h
  · rw [show b.2 - a.2 = 0 by omega, Int.zero_mul]
    refine bs_zero fun p => ?_
    unfold cr rh
    (repeat' split) <;> omega
  · have := line_up hb ha h
    have e : bs N (fun p => cr a b p + rh a b p) = - bs N (fun p => cr b a p + rh b a p) := by
      rw [← bs_neg]
      exact bs_congr fun p => by rw [cr_swap a b p, rh_swap a b p]; omega
    rw [e, this]; grind
/-- twice the area -/
def Ar (v : Nat → Pt) (n : Nat) : Int := sm (fun j => (v j).1 * (v (j + 1)).2 - (v (j + 1)).1 * (v j).2) n
/-- TWICE THE AREA is the sum over all points of both counts -/
theorem Ar_eq {v : Nat → Pt} {n N : Nat} (hp : ∀ i, v (i + n) = v i) (hN : ∀ i, InBox N (v i)) : Ar v n = bs N (fun p => WN v n p + WN (fun i => ng (v i)) n (ng p)) := by
  have e : bs N (fun p => WN v n p + WN (fun i => ng (v i)) n (ng p)) = bs N (fun p => sm (fun j => cr (v j) (v (j + 1)) p + rh (v j) (v (j + 1)) p) n) :=
    bs_congr fun p => by
      rw [sm_add]
      unfold WN
      congr 1
      exact sm_congr fun j _ => cr_ng _ _ _
  rw [e, bs_sm]
  have : sm (fun k => bs N (fun p => cr (v k) (v (k + 1)) p + rh (v k) (v (k + 1)) p)) n = sm (fun j => ((v j).1 * (v (j + 1)).2 - (v (j + 1)).1 * (v j).2) + ((v (j + 1)).1 * (v (j + 1)).2 - (v j).1 * (v j).2)) n :=
    sm_congr fun j _ => by rw [line_any (hN _) (hN _)]; grind
  rw [this, sm_add]
  have t := sm_tele (fun j => (v j).1 * (v j).2) n
  have p0 := hp 0
  rw [Nat.zero_add] at p0
  rw [p0] at t
  rw [t]
  unfold Ar
  omega
end Go.Proofs.Ytjkfdcjfoliboaa.MJ
/- plain mathematics: the side and the sign of the area -/
namespace Go.Proofs.Ytjkfdcjfoliboaa.MJ
set_option linter.unusedVariables false
set_option linter.unusedSimpArgs false
theorem sm_nn {f : Nat → Int} {n : Nat} (h : ∀ i, i < n → 0 ≤ f i) : 0 ≤ sm f n := by
  have := sm_le (f := fun _ => 0) (g := f) (n := n) h
  rw [sm_zero (fun _ _ => rfl)] at this
  exact this
theorem sm_term {f : Nat → Int} {n : Nat} (h : ∀ i, i < n → 0 ≤ f i) {k : Nat} (hk : k < n) : f k ≤ sm f n := by
  induction n with
  | zero => omega
  | succ n ih =>
    have h0 := sm_nn (f := f) (n := n) (fun i hi => h i (by omega))
    have hn := h n (by omega)
    simp only [sm]
    by_cases e : k = n
    · subst e; omega
    · have := ih (fun i hi => h i (by omega)) (by omega); omega
theorem bs_nn {N : Nat} {f : Pt → Int} (h : ∀ p, 0 ≤ f p) : 0 ≤ bs N f := sm_nn fun _ _ => sm_nn fun _ _ => h _
theorem bs_pos {N : Nat} {f : Pt → Int} (h : ∀ p, 0 ≤ f p) {q : Pt} (hq : InBox N q) (h1 : 0 < f q) : 0 < bs N f := by
  obtain ⟨x0, x1, y0, y1⟩ := hq
  have e : bx N (q.1 + N).toNat (q.2 + N).toNat = q := Prod.ext (by simp only [bx]; omega) (by simp only [bx]; omega)
  have k1 := sm_term (f := fun i => f (bx N i (q.2 + N).toNat)) (n := 2 * N + 1) (fun i _ => h _) (k := (q.1 + N).toNat) (by omega)
  have k2 := sm_term (f := fun j => sm (fun i => f (bx N i j)) (2 * N + 1)) (n := 2 * N + 1) (fun j _ => sm_nn fun i _ => h _) (k := (q.2 + N).toNat) (by omega)
  simp only [e] at k1
  unfold bs
  omega
/-- both counts together -/
def Vn (v : Nat → Pt) (n : Nat) (p : Pt) : Int := WN v n p + WN (fun i => ng (v i)) n (ng p)
theorem Bd_ng {v : Nat → Pt} {p : Pt} : Bd (fun i => ng (v i)) (ng p) ↔ Bd v p := by
  unfold Bd; simp only [on_ng]
theorem Vn_in {v : Nat → Pt} {n : Nat} (h : Poly v n) (k : Nat) {x : Pt} (hx : In (v k) (v (k + 1)) x) : Vn v n x = 2 * Cs v n - 1 := by
  have w1 := WN_in h k hx
  have w2 := WN_in (poly_ng h) k (in_ng hx)
  rw [Cs_ng h.toSimple, up_ng (in_ne hx).2.2] at w2
  unfold Vn; omega
theorem Vn_corner {v : Nat → Pt} {n : Nat} (h : Poly v n) (k : Nat) : Vn v n (v k) = 2 * Cs v n - co (v (k + n - 1)) (v k) (v (k + 1)) - co (ng (v (k + n - 1))) (ng (v k)) (ng (v (k + 1))) := by
  have w1 := WN_corner h k
  have w2 := WN_corner (poly_ng h) k
  rw [Cs_ng h.toSimple] at w2
  unfold Vn; omega
theorem Vn_sign {v : Nat → Pt} {n : Nat} (h : Poly v n) (p : Pt) : (Cs v n = 1 → 0 ≤ Vn v n p) ∧ (Cs v n = 0 → Vn v n p ≤ 0) := by
  by_cases hb : Bd v p
  · obtain ⟨k, hk⟩ := hb
    have corner : ∀ k, (Cs v n = 1 → 0 ≤ Vn v n (v k)) ∧ (Cs v n = 0 → Vn v n (v k) ≤ 0) := by
      intro k
      have e := Vn_corner h k
      have a1 := co_01 (adj_at h.toSimple k)
      have a2 := co_01 (adj_ng (adj_at h.toSimple k))
      omega
    rcases on_in hk with e | e | hx
    · rw [e]; exact corner k
    · rw [e]; exact corner (k + 1)
    · have := Vn_in h k hx; omega
  · have j1 := jordan h hb
    have j2 := jordan (poly_ng h) (fun w => hb (Bd_ng.1 w))
    rw [Cs_ng h.toSimple] at j2
    unfold Vn; omega
theorem Ar_sc (v : Nat → Pt) (n : Nat) (M : Int) : Ar (fun i => sc M (v i)) n = M * M * Ar v n := by
  unfold Ar
  rw [← sm_mul]
  exact sm_congr fun j _ => by simp only [sc]; grind
/-- THE SIDE AND THE AREA -/
theorem Ar_side {v : Nat → Pt} {n N : Nat} (h : Poly v n) (hN : ∀ i, InBox N (v i)) : (Cs v n = 1 → 0 < Ar v n) ∧ (Cs v n = 0 → Ar v n < 0) := by
  have h2 : (0 : Int) < 2 := by omega
  have hp := poly_sc h2 h
  have hN2 : ∀ i, InBox (2 * N) (sc 2 (v i)) := fun i => by
    obtain ⟨a, b, c, d⟩ := hN i
    refine ⟨?_, ?_, ?_, ?_⟩ <;> simp only [sc] <;> omega
  have e : 2 * 2 * Ar v n = bs (2 * N) (Vn (fun i => sc 2 (v i)) n) := by
    rw [← Ar_sc]
    exact Ar_eq (n := n) hp.per hN2
  have hm : In (sc 2 (v 0)) (sc 2 (v 1)) ((v 0).1 + (v 1).1, (v 0).2 + (v 1).2) := by
    have hne := (h.adj 0).1
    have e1 : (v 0).2 = (v 1).2 → (v 0).1 ≠ (v 1).1 := fun e e' => hne (Prod.ext e' e)
    refine ⟨by unfold tw sc; simp only []; grind, ?_⟩
    simp only [sc]
    omega
  have hi : InBox (2 * N) ((v 0).1 + (v 1).1, (v 0).2 + (v 1).2) := by
    obtain ⟨a, b, c, d⟩ := hN 0
    obtain ⟨a', b', c', d'⟩ := hN 1
    refine ⟨?_, ?_, ?_, ?_⟩ <;> simp only [] <;> omega
  have q := Vn_in hp 0 hm
  rw [Cs_sc h2] at q
  constructor
  · intro hc
    have := bs_pos (N := 2 * N) (f := Vn (fun i => sc 2 (v i)) n) (fun p => (Vn_sign hp p).1 (by rw [Cs_sc h2]; exact hc)) hi (by omega)
    omega
  · intro hc
    have := bs_pos (N := 2 * N) (f := fun p => - Vn (fun i => sc 2 (v i)) n p) (fun p => by have := (Vn_sign hp p).2 (by rw [Cs_sc h2]; exact hc); omega) hi (by omega)
    rw [bs_neg] at this
    omega
/-- CONVEX: if all corners turn to one side, that is the area's -/
theorem all_left {v : Nat → Pt} {n N : Nat} (h : Poly v n) (hN : ∀ i, InBox N (v i)) (ht : ∀ i, 0 < tw (v i) (v (i + 1)) (v (i + 2))) : 0 < Ar v n := by
  obtain ⟨k, _, hk⟩ := east h.toSimple
  have t := ht (k + n - 1)
  have h3 := h.three
  rw [show k + n - 1 + 1 = k + n by omega, show k + n - 1 + 2 = k + 1 + n by omega, h.per, h.per] at t
  exact (Ar_side h hN).1 ((Cs_turn h.toSimple hk).1 t)
theorem all_right {v : Nat → Pt} {n N : Nat} (h : Poly v n) (hN : ∀ i, InBox N (v i)) (ht : ∀ i, tw (v i) (v (i + 1)) (v (i + 2)) < 0) : Ar v n < 0 := by
  obtain ⟨k, _, hk⟩ := east h.toSimple
  have t := ht (k + n - 1)
  have h3 := h.three
  rw [show k + n - 1 + 1 = k + n by omega, show k + n - 1 + 2 = k + 1 + n by omega, h.per, h.per] at t
  exact (Ar_side h hN).2 ((Cs_turn h.toSimple hk).2 t)
/-- the crossings, whatever their signs -/
def Xs (v : Nat → Pt) (n : Nat) (p : Pt) : Int := sm (fun j => (cr (v j) (v (j + 1)) p) * (cr (v j) (v (j + 1)) p)) n
/-- INSIDE: going round is the same as crossing oddly often -/
theorem odd_iff {v : Nat → Pt} {n : Nat} (h : Poly v n) {p : Pt} (hp : ¬ Bd v p) : WN v n p ≠ 0 ↔ Xs v n p % 2 = 1 := by
  have j := jordan h hp
  have c := Cs_01 h.toSimple
  have par : ∀ m, (sm (fun j => (cr (v j) (v (j + 1)) p) * (cr (v j) (v (j + 1)) p)) m - sm (fun j => cr (v j) (v (j + 1)) p) m) % 2 = 0 := by
    intro m
    induction m with
    | zero => rfl
    | succ m ih =>
      simp only [sm]
      have : cr (v m) (v (m + 1)) p = 0 ∨ cr (v m) (v (m + 1)) p = 1 ∨ cr (v m) (v (m + 1)) p = -1 := by
        unfold cr; (repeat' split) <;> simp
      rcases this with e | e | e <;> rw [e] <;> omega
  have := par n
  unfold WN Xs at *
  omega
end Go.Proofs.Ytjkfdcjfoliboaa.MJ
/- what a call may read of a list of points -/
namespace Go.Proofs.Ytjkfdcjfoliboaa
open Go.ChangeShapes Go.WideShapes Go.ChangeAt Go.RowKit Go.Joins
set_option linter.unusedVariables false
set_option linter.unusedSimpArgs false
set_option maxRecDepth 4000
theorem bt_keep {w W W' : World} (h : Below w.heap.size w W) (hb : Below W.heap.size W W') : Below w.heap.size w W' := h.trans (hb.mono h.size)
/-- what a call may read of a list of points -/
def Pts (w : World) (b off n : Nat) (l : List (Int × Int)) : Prop :=
  ∀ W, Below w.heap.size w W → ∀ i, i < n → W.cell? ⟨b, off + i * 2, none⟩ = some (.int .i64 (vx l i).1) ∧ W.cell? ⟨b, off + i * 2 + 1, none⟩ = some (.int .i64 (vx l i).2)
theorem pts_of {w : World} {A : Option Addr} {l : List (Int × Int)} (h0 : 0 < l.length) (hR : Rd w w.heap.size A l) : ∃ b off, A = some ⟨b, off, none⟩ ∧ b < w.heap.size ∧ Hid (Pts w b off l.length l) := by
  obtain ⟨b, off, e, hb, hc⟩ := hR h0
  refine ⟨b, off, e, hb, Lib.hid fun W hW i hi => ?_⟩
  have h1 := hc i _ (vx_get hi)
  exact ⟨(hW.cell (p := ⟨b, off + i * 2, none⟩) hb).trans h1.1, (hW.cell (p := ⟨b, off + i * 2 + 1, none⟩) hb).trans h1.2⟩
theorem pgs_sz {l : List (Int × Int)} (h : ∀ i, i < l.length → isPg (vx l i) = true) (i : Nat) (h0 : 0 < l.length) : Sz (vx l i).1 (vx l i).2 := sz_of (vx_pg h h0 i)
end Go.Proofs.Ytjkfdcjfoliboaa
/- plain mathematics: what the told polygons are, as rows of points that come round -/
namespace Go.Proofs.Ytjkfdcjfoliboaa
open Go.ChangeShapes Go.WideShapes Go.ChangeAt Go.RowKit Go.Joins
set_option linter.unusedVariables false
set_option linter.unusedSimpArgs false
set_option maxRecDepth 4000
theorem tw_is (a b c : Int × Int) : MJ.tw a b c = twP a b c := by unfold MJ.tw twP twI; grind
theorem on_is (a b p : Int × Int) : onB a.1 a.2 b.1 b.2 p.1 p.2 = true ↔ MJ.on a b p := by
  rw [onB_eq]
  unfold MJ.on
  rw [tw_is]
  simp only [Bool.and_eq_true, decide_eq_true_eq, twP]
  omega
theorem me_is (a b c d : Int × Int) : meP a b c d = true ↔ MJ.meets a b c d := by
  unfold meP meetB MJ.meets
  simp only [Bool.or_eq_true, decide_eq_true_eq]
  rw [on_is, on_is, on_is, on_is, tw_is, tw_is, tw_is, tw_is]
  unfold twP
  constructor
  · rintro ((((h | h) | h) | h) | h)
    · exact .inr (.inr (.inl h))
    · exact .inr (.inr (.inr (.inl h)))
    · exact .inl h
    · exact .inr (.inl h)
    · exact .inr (.inr (.inr (.inr h)))
  · rintro (h | h | h | h | h)
    · exact .inl (.inl (.inr h))
    · exact .inl (.inr h)
    · exact .inl (.inl (.inl (.inl h)))
    · exact .inl (.inl (.inl (.inr h)))
    · exact .inr h
theorem meets_comm {a b c d : Int × Int} (h : MJ.meets a b c d) : MJ.meets c d a b := by
  rcases h with h | h | h | h | h
  · exact .inr (.inr (.inl h))
  · exact .inr (.inr (.inr (.inl h)))
  · exact .inl h
  · exact .inr (.inl h)
  · exact .inr (.inr (.inr (.inr ⟨h.2, h.1⟩)))
theorem vx_addN (l : List (Int × Int)) (i : Nat) : vx l (i + l.length) = vx l i := by unfold vx; rw [Nat.add_mod_right]
theorem vx_add1 (l : List (Int × Int)) (i k : Nat) : vx l (i % l.length + k) = vx l (i + k) := by
  rw [← vx_per l (i % l.length + k), ← vx_per l (i + k), Nat.mod_add_mod]
theorem vx_mul (l : List (Int × Int)) (p k : Nat) : vx l (l.length * p + k) = vx l k := by unfold vx; rw [Nat.mul_add_mod]
theorem good_ne {l : List (Int × Int)} (hg : Good l) (i : Nat) : vx l i ≠ vx l (i + 1) := by
  have h3 := hg.few.1
  rw [← vx_per l i, ← vx_add1 l i 1]
  have hm : i % l.length < l.length := Nat.mod_lt _ (by omega)
  by_cases h : i % l.length + 1 < l.length
  · exact (hg.diff _ _ (by omega) h).symm
  · have e : i % l.length + 1 = 0 + l.length := by omega
    rw [e, vx_addN]
    exact hg.diff _ _ (by omega) hm
theorem good_turn {l : List (Int × Int)} (hg : Good l) (i : Nat) : twP (vx l i) (vx l (i + 1)) (vx l (i + 2)) ≠ 0 := by
  have h3 := hg.few.1
  rw [← vx_per l i, ← vx_add1 l i 1, ← vx_add1 l i 2]
  exact hg.turn _ (Nat.mod_lt _ (by omega))
theorem good_poly {l : List (Int × Int)} (hg : Good l) : MJ.Poly (vx l) l.length := by
  have h3 := hg.few.1
  refine { three := h3, per := vx_addN l, adj := fun i => ⟨good_ne hg i, good_ne hg (i + 1), fun h => absurd (by rw [tw_is] at h; exact h) (good_turn hg i)⟩, apart := fun i j h1 h2 h => ?_, turn := fun i h => good_turn hg i (by rw [tw_is] at h; exact h) }
  obtain ⟨p, r, e, hr⟩ : ∃ p r, i = l.length * p + r ∧ r < l.length := ⟨i / l.length, i % l.length, (Nat.div_add_mod i l.length).symm, Nat.mod_lt _ (by omega)⟩
  obtain ⟨k, rfl⟩ : ∃ k, j = l.length * p + k := ⟨j - l.length * p, by omega⟩
  subst e
  rw [Nat.add_assoc, Nat.add_assoc, vx_mul, vx_mul, vx_mul, vx_mul] at h
  by_cases hk : k < l.length
  · have := hg.apart r k (by omega) hk (by omega)
    rw [← me_is, this] at h
    cases h
  · obtain ⟨m, rfl⟩ : ∃ m, k = m + l.length := ⟨k - l.length, by omega⟩
    rw [show m + l.length + 1 = m + 1 + l.length by omega, vx_addN, vx_addN] at h
    have := hg.apart m r (by omega) hr (by omega)
    have h' := meets_comm h
    rw [← me_is, this] at h'
    cases h'
theorem sumTo_is (f : Nat → Int) (n : Nat) : sumTo f n = MJ.sm f n := by
  induction n with
  | zero => rfl
  | succ n ih => unfold sumTo MJ.sm; rw [ih]
theorem area_is (l : List (Int × Int)) : areaN l = MJ.Ar (vx l) l.length := sumTo_is _ _
theorem good_box {l : List (Int × Int)} (hg : Good l) (i : Nat) : MJ.InBox 40 (vx l i) := by
  have := vx_pg hg.pegs (good_pos hg) i
  unfold isPg isPegB at this
  simp only [Bool.and_eq_true, decide_eq_true_eq] at this
  exact ⟨by omega, by omega, by omega, by omega⟩
/-- all corners turn to the left -/
def leftAll (l : List (Int × Int)) : Prop := ∀ i, i < l.length → 0 < twP (vx l i) (vx l (i + 1)) (vx l (i + 2))
def rightAll (l : List (Int × Int)) : Prop := ∀ i, i < l.length → twP (vx l i) (vx l (i + 1)) (vx l (i + 2)) < 0
theorem all_i {l : List (Int × Int)} {P : Int → Prop} (h0 : 0 < l.length) (h : ∀ i, i < l.length → P (twP (vx l i) (vx l (i + 1)) (vx l (i + 2)))) (i : Nat) : P (twP (vx l i) (vx l (i + 1)) (vx l (i + 2))) := by
  have := h (i % l.length) (Nat.mod_lt _ h0)
  rw [vx_per, vx_add1, vx_add1] at this
  exact this
theorem left_area {l : List (Int × Int)} (hg : Good l) (h : leftAll l) : 0 < areaN l := by
  rw [area_is]
  exact MJ.all_left (good_poly hg) (good_box hg) fun i => by rw [tw_is]; exact all_i (P := fun x => 0 < x) (good_pos hg) h i
theorem right_area {l : List (Int × Int)} (hg : Good l) (h : rightAll l) : areaN l < 0 := by
  rw [area_is]
  exact MJ.all_right (good_poly hg) (good_box hg) fun i => by rw [tw_is]; exact all_i (P := fun x => x < 0) (good_pos hg) h i
end Go.Proofs.Ytjkfdcjfoliboaa
/- contract: the sign of a number -/
namespace Go.Proofs.Ytjkfdcjfoliboaa
open Go.ChangeShapes Go.WideShapes Go.ChangeAt Go.RowKit Go.Joins
set_option linter.unusedVariables false
set_option linter.unusedSimpArgs false
set_option maxRecDepth 4000
theorem l1Sign_any (n : Int) (w : World) :
    Calls Try.prog 64 #[.int .i64 n] w fun e w' => e = .returned (.int .i64 (sgn n)) ∧ w = w' := by
  have s1 : 0 < n → sgn n = 1 := fun h => by unfold sgn; rw [if_pos h]
  have s2 : n < 0 → sgn n = -1 := fun h => by unfold sgn; rw [if_neg (by omega), if_pos h]
  have s3 : n = 0 → sgn n = 0 := fun h => by unfold sgn; rw [if_neg (by omega), if_neg (by omega)]
  have S1 := Lib.hid s1
  have S2 := Lib.hid s2
  have S3 := Lib.hid s3
  clear s1 s2 s3
  rcases Int.lt_trichotomy n 0 with h | h | h
  all_goals
    go_enter Try.func64, Try.ntmps64
    go_wp2
    go_ret
    exact ⟨ret_int (by first | (rw [S1.out (by omega)]; done) | (rw [S2.out (by omega)]; done) | (rw [S3.out (by omega)]; done)), rfl⟩
end Go.Proofs.Ytjkfdcjfoliboaa
/- plain: when all corners turn to one side -/
namespace Go.Proofs.Ytjkfdcjfoliboaa
open Go.ChangeShapes Go.WideShapes Go.ChangeAt Go.RowKit Go.Joins
set_option linter.unusedVariables false
set_option linter.unusedSimpArgs false
set_option maxRecDepth 4000
def tN (l : List (Int × Int)) (i : Nat) : Int := twP (vx l i) (vx l (i + 1)) (vx l (i + 2))
/-- all corners turn to the area's side -/
def Cvx (l : List (Int × Int)) : Prop := ∀ i, i < l.length → sgn (tN l i) = sgn (areaN l)
noncomputable def convB (l : List (Int × Int)) : Bool := @decide (Cvx l) (Classical.propDecidable _)
theorem convB_true {l : List (Int × Int)} (h : Cvx l) : convB l = true := by unfold convB; exact @decide_eq_true _ (Classical.propDecidable _) h
theorem convB_false {l : List (Int × Int)} (h : ¬ Cvx l) : convB l = false := by unfold convB; exact @decide_eq_false _ (Classical.propDecidable _) h
/-- the program's way: all turn as the first one does -/
def tB (l : List (Int × Int)) (i : Nat) : Int := twP (vx l (i + l.length - 1)) (vx l i) (vx l (i + 1))
theorem tB_tN {l : List (Int × Int)} (h0 : 0 < l.length) (i : Nat) : tB l i = tN l (i + l.length - 1) := by
  unfold tB tN
  rw [show i + l.length - 1 + 1 = i + l.length by omega, show i + l.length - 1 + 2 = i + 1 + l.length by omega, vx_addN, vx_addN]
theorem tN_add (l : List (Int × Int)) (i : Nat) : tN l (i + l.length) = tN l i := by
  unfold tN
  rw [show i + l.length + 1 = i + 1 + l.length by omega, show i + l.length + 2 = i + 2 + l.length by omega, vx_addN, vx_addN, vx_addN]
theorem tN_tB {l : List (Int × Int)} (h0 : 0 < l.length) (i : Nat) : tN l i = tB l (i + 1) := by
  rw [tB_tN h0, show i + 1 + l.length - 1 = i + l.length by omega, tN_add]
theorem tB_mod {l : List (Int × Int)} (h0 : 0 < l.length) (i : Nat) : tB l (i % l.length) = tB l i := by
  have e : ∀ q r, tB l (r + l.length * q) = tB l r := by
    intro q
    induction q with
    | zero => intro r; rfl
    | succ q ih =>
      intro r
      rw [← ih r, tB_tN h0, tB_tN h0, show r + l.length * (q + 1) + l.length - 1 = r + l.length * q + l.length - 1 + l.length by rw [Nat.mul_succ]; omega, tN_add]
  have := Nat.mod_add_div i l.length
  rw [← e (i / l.length) (i % l.length), this]
theorem tB_ne {l : List (Int × Int)} (hg : Good l) (i : Nat) : tB l i ≠ 0 := by
  rw [tB_tN (good_pos hg)]; exact good_turn hg _
theorem cvx_same {l : List (Int × Int)} (hg : Good l) (h : ∀ i, i < l.length → (0 < tB l i ↔ 0 < tB l 0)) : Cvx l := by
  have h0 := good_pos hg
  have all : ∀ i, 0 < tB l i ↔ 0 < tB l 0 := fun i => by rw [← tB_mod h0 i]; exact h _ (Nat.mod_lt _ h0)
  by_cases hp : 0 < tB l 0
  · have hl : leftAll l := fun i _ => by show 0 < tN l i; rw [tN_tB h0]; exact (all _).2 hp
    have ha := left_area hg hl
    intro i hi
    have := hl i hi
    change 0 < tN l i at this
    unfold sgn
    rw [if_pos ha, if_pos this]
  · have hl : rightAll l := fun i _ => by
      show tN l i < 0
      rw [tN_tB h0]
      have h1 := tB_ne hg (i + 1)
      have h2 := mt (all (i + 1)).1 hp
      omega
    have ha := right_area hg hl
    intro i hi
    have := hl i hi
    change tN l i < 0 at this
    unfold sgn
    rw [if_neg (by omega), if_pos this, if_neg (by omega), if_pos ha]
theorem same_cvx {l : List (Int × Int)} (hg : Good l) (h : Cvx l) (i : Nat) : 0 < tB l i ↔ 0 < tB l 0 := by
  have h0 := good_pos hg
  have all : ∀ i, sgn (tB l i) = sgn (areaN l) := by
    intro i
    rw [← tB_mod h0, tB_tN h0]
    have e : i % l.length + l.length - 1 = (i % l.length + l.length - 1) % l.length + l.length * ((i % l.length + l.length - 1) / l.length) := (Nat.mod_add_div _ _).symm
    have m : ∀ q r, tN l (r + l.length * q) = tN l r := by
      intro q
      induction q with
      | zero => intro r; rfl
      | succ q ih => intro r; rw [← ih r, show r + l.length * (q + 1) = r + l.length * q + l.length by rw [Nat.mul_succ]; omega, tN_add]
    rw [e, m]
    exact h _ (Nat.mod_lt _ h0)
  have e := (all i).trans (all 0).symm
  unfold sgn at e
  constructor
  · intro hp
    rw [if_pos hp] at e
    by_cases h1 : 0 < tB l 0
    · exact h1
    · rw [if_neg h1] at e; split at e <;> omega
  · intro hp
    rw [if_pos hp] at e
    by_cases h1 : 0 < tB l i
    · exact h1
    · rw [if_neg h1] at e; split at e <;> omega
end Go.Proofs.Ytjkfdcjfoliboaa
/- plain: where a point is; contract: the model's search -/
namespace Go.Proofs.Ytjkfdcjfoliboaa
open Go.ChangeShapes Go.WideShapes Go.ChangeAt Go.RowKit Go.Joins
set_option linter.unusedVariables false
set_option linter.unusedSimpArgs false
set_option maxRecDepth 4000
/-- where a point is: 1 inside, 0 on the lines, -1 otherwise -/
noncomputable def whN (l : List (Int × Int)) (p : Int × Int) : Int := @ite _ (MJ.Bd (vx l) p) (Classical.propDecidable _) 0 (if MJ.WN (vx l) l.length p = 0 then -1 else 1)
theorem whN_on {l : List (Int × Int)} {p : Int × Int} (h : MJ.Bd (vx l) p) : whN l p = 0 := by unfold whN; exact @if_pos _ (Classical.propDecidable _) h _ _ _
theorem whN_off {l : List (Int × Int)} {p : Int × Int} (h : ¬ MJ.Bd (vx l) p) : whN l p = if MJ.WN (vx l) l.length p = 0 then -1 else 1 := by unfold whN; exact @if_neg _ (Classical.propDecidable _) h _ _ _
def onE (l : List (Int × Int)) (p : Int × Int) (k : Nat) : Bool := onB (vx l k).1 (vx l k).2 (vx l (k + 1)).1 (vx l (k + 1)).2 p.1 p.2
theorem onE_bd {l : List (Int × Int)} {p : Int × Int} {k : Nat} (h : onE l p k = true) : MJ.Bd (vx l) p := ⟨k, (on_is _ _ _).1 h⟩
theorem off_bd {l : List (Int × Int)} {p : Int × Int} (h0 : 0 < l.length) (h : ∀ k, k < l.length → onE l p k = false) : ¬ MJ.Bd (vx l) p := by
  rintro ⟨k, hk⟩
  have e := h (k % l.length) (Nat.mod_lt _ h0)
  unfold onE at e
  rw [vx_per, vx_add1, ((on_is _ _ _).2 hk)] at e
  cases e
/-- a line's crossing -/
def crN (l : List (Int × Int)) (p : Int × Int) (k : Nat) : Int := MJ.cr (vx l k) (vx l (k + 1)) p
def xsN (l : List (Int × Int)) (p : Int × Int) (k : Nat) : Int := MJ.sm (fun j => crN l p j * crN l p j) k
def wnN (l : List (Int × Int)) (p : Int × Int) (k : Nat) : Int := MJ.sm (crN l p) k
theorem whN_wn {l : List (Int × Int)} {p : Int × Int} (h0 : 0 < l.length) (h : ∀ k, k < l.length → onE l p k = false) : whN l p = if wnN l p l.length = 0 then -1 else 1 := whN_off (off_bd h0 h)
theorem whN_xs {l : List (Int × Int)} {p : Int × Int} (hg : Good l) (h : ∀ k, k < l.length → onE l p k = false) : whN l p = if xsN l p l.length % 2 = 1 then 1 else -1 := by
  have hb := off_bd (good_pos hg) h
  rw [whN_off hb]
  have o := MJ.odd_iff (good_poly hg) hb
  change _ ↔ xsN l p l.length % 2 = 1 at o
  by_cases h1 : MJ.WN (vx l) l.length p = 0
  · rw [if_pos h1, if_neg (fun w => (o.2 w) h1)]
  · rw [if_neg h1, if_pos (o.1 h1)]
/-- the crossing as the model tells it -/
theorem cr_low {a b p : Int × Int} (h : a.2 ≤ b.2) : (MJ.cr a b p = 1 ↔ (a.2 ≤ p.2 ∧ p.2 < b.2 ∧ 0 < twP a b p)) ∧ (¬ (a.2 ≤ p.2 ∧ p.2 < b.2 ∧ 0 < twP a b p) → MJ.cr a b p = 0) := by
  rw [MJ.cr_up h, tw_is]
  by_cases c : a.2 ≤ p.2 ∧ p.2 < b.2 ∧ 0 < twP a b p
  · rw [if_pos c]; exact ⟨⟨fun _ => c, fun _ => rfl⟩, fun w => absurd c w⟩
  · rw [if_neg c]; exact ⟨⟨fun w => by omega, fun w => absurd w c⟩, fun _ => rfl⟩
theorem cr_high {a b p : Int × Int} (h : b.2 < a.2) : (MJ.cr a b p = -1 ↔ (b.2 ≤ p.2 ∧ p.2 < a.2 ∧ 0 < twP b a p)) ∧ (¬ (b.2 ≤ p.2 ∧ p.2 < a.2 ∧ 0 < twP b a p) → MJ.cr a b p = 0) := by
  have := cr_low (a := b) (b := a) (p := p) (by omega)
  rw [MJ.cr_swap a b p] at this
  constructor
  · rw [← this.1]; omega
  · intro w; have := this.2 w; omega
theorem xs_step1 {l : List (Int × Int)} {p : Int × Int} {k : Nat} (h : crN l p k = 1 ∨ crN l p k = -1) : decide (xsN l p (k + 1) % 2 = 1) = !decide (xsN l p k % 2 = 1) := by
  have e : xsN l p (k + 1) = xsN l p k + 1 := by
    show xsN l p k + crN l p k * crN l p k = _
    rcases h with h | h <;> rw [h] <;> rfl
  rw [e, Bool.eq_iff_iff]
  simp only [decide_eq_true_eq, Bool.not_eq_true', decide_eq_false_iff_not]
  omega
theorem xs_step0 {l : List (Int × Int)} {p : Int × Int} {k : Nat} (h : crN l p k = 0) : decide (xsN l p (k + 1) % 2 = 1) = decide (xsN l p k % 2 = 1) := by
  have e : xsN l p (k + 1) = xsN l p k := by
    show xsN l p k + crN l p k * crN l p k = _
    rw [h]; omega
  rw [e]
/-- two blocks of a point each are written anew -/
theorem two_set {wb wc : World} {g h : Nat} {a1 a2 b1 b2 : Int} {u1 u2 u3 u4 : Value} (hne : g ≠ h) (hg : wb.heap.size ≤ g) (hh : wb.heap.size ≤ h) (hB : Below wb.heap.size wb wc)
    (c1 : wc.cell? ⟨g, 0, none⟩ = some u1) (c2 : wc.cell? ⟨g, 1, none⟩ = some u2) (c3 : wc.cell? ⟨h, 0, none⟩ = some u3) (c4 : wc.cell? ⟨h, 1, none⟩ = some u4) :
    ∃ w4, w4 = (((wc.setCell ⟨g, 0, none⟩ (.int .i64 b1)).setCell ⟨g, 1, none⟩ (.int .i64 b2)).setCell ⟨h, 0, none⟩ (.int .i64 a1)).setCell ⟨h, 1, none⟩ (.int .i64 a2) ∧
      Below wb.heap.size wb w4 ∧ w4.heap.size = wc.heap.size ∧ w4.cell? ⟨g, 0, none⟩ = some (.int .i64 b1) ∧ w4.cell? ⟨g, 1, none⟩ = some (.int .i64 b2) ∧ w4.cell? ⟨h, 0, none⟩ = some (.int .i64 a1) ∧ w4.cell? ⟨h, 1, none⟩ = some (.int .i64 a2) ∧
      (∀ x o, x < wb.heap.size → w4.cell? ⟨x, o, none⟩ = wb.cell? ⟨x, o, none⟩) := by
  have ne : ∀ (W : World) (x y : Nat) (o o' : Nat) (v : Value), (x ≠ y ∨ o ≠ o') → (W.setCell ⟨x, o, none⟩ v).cell? ⟨y, o', none⟩ = W.cell? ⟨y, o', none⟩ := fun W x y o o' v h =>
    World.cell?_setCell_other W _ _ _ (fun e => by injection e with e1 e2; rcases h with h | h; exact h e1; exact h e2)
  have sm : ∀ (W : World) (x o : Nat) (u v : Value), W.cell? ⟨x, o, none⟩ = some u → (W.setCell ⟨x, o, none⟩ v).cell? ⟨x, o, none⟩ = some v := fun W x o u v h => World.cell?_setCell_same W _ _ h
  have B4 : Below wb.heap.size wb ((((wc.setCell ⟨g, 0, none⟩ (.int .i64 b1)).setCell ⟨g, 1, none⟩ (.int .i64 b2)).setCell ⟨h, 0, none⟩ (.int .i64 a1)).setCell ⟨h, 1, none⟩ (.int .i64 a2)) :=
    Below.setCell (Below.setCell (Below.setCell (Below.setCell hB hg _) hg _) hh _) hh _
  refine ⟨_, rfl, B4, by simp [World.setCell], ?_, ?_, ?_, ?_, fun x o hx => (bcell B4).1 x o hx⟩
  · rw [ne _ _ _ _ _ _ (.inl (Ne.symm hne)), ne _ _ _ _ _ _ (.inl (Ne.symm hne)), ne _ _ _ _ _ _ (.inr (by omega))]; exact sm _ _ _ _ _ c1
  · rw [ne _ _ _ _ _ _ (.inl (Ne.symm hne)), ne _ _ _ _ _ _ (.inl (Ne.symm hne))]; exact sm _ _ _ u2 _ (by rw [ne _ _ _ _ _ _ (.inr (by omega))]; exact c2)
  · rw [ne _ _ _ _ _ _ (.inr (by omega))]; exact sm _ _ _ u3 _ (by rw [ne _ _ _ _ _ _ (.inl hne), ne _ _ _ _ _ _ (.inl hne)]; exact c3)
  · exact sm _ _ _ u4 _ (by rw [ne _ _ _ _ _ _ (.inr (by omega)), ne _ _ _ _ _ _ (.inl hne), ne _ _ _ _ _ _ (.inl hne)]; exact c4)
end Go.Proofs.Ytjkfdcjfoliboaa
/- plain mathematics: how many points are inside -/
namespace Go.Proofs.Ytjkfdcjfoliboaa.MJ
set_option linter.unusedVariables false
set_option linter.unusedSimpArgs false
open Classical
theorem bezN : ∀ m n : Nat, ∃ u w : Int, u * m + w * n = Nat.gcd m n := by
  intro m n
  induction m, n using Nat.gcd.induction with
  | H0 n => exact ⟨0, 1, by simp⟩
  | H1 m n _ ih =>
    obtain ⟨u, w, h⟩ := ih
    refine ⟨w - u * ((n / m : Nat) : Int), u, ?_⟩
    rw [Nat.gcd_rec, ← h]
    have := Nat.mod_add_div n m
    have e : (n : Int) = ((n % m : Nat) : Int) + (m : Int) * ((n / m : Nat) : Int) := by exact_mod_cast this.symm
    generalize ((n % m : Nat) : Int) = r at *
    generalize ((n / m : Nat) : Int) = q at *
    rw [e]; grind
theorem bez (m n : Int) : ∃ u w : Int, u * m + w * n = Int.gcd m n := by
  obtain ⟨u, w, h⟩ := bezN m.natAbs n.natAbs
  have s : ∀ x : Int, ∃ e : Int, (x.natAbs : Int) = e * x := fun x => by
    by_cases hx : 0 ≤ x
    · exact ⟨1, by omega⟩
    · exact ⟨-1, by omega⟩
  obtain ⟨e, he⟩ := s m
  obtain ⟨f, hf⟩ := s n
  refine ⟨u * e, w * f, ?_⟩
  unfold Int.gcd
  rw [← h, he, hf]; grind
/-- steps of a line -/
def St (a b : Pt) : Nat := Int.gcd (b.1 - a.1) (b.2 - a.2)
theorem St_pos {a b : Pt} (h : a ≠ b) : 0 < St a b := by
  refine Nat.pos_of_ne_zero fun e => h ?_
  unfold St at e
  rw [Int.gcd_eq_zero_iff] at e
  exact Prod.ext (by omega) (by omega)
theorem seg_t {g t s p a b : Int} (hg : 0 < g) (hs : s ≠ 0) (e1 : b - a = g * s) (e2 : p - a = t * s) (h1 : min a b ≤ p) (h2 : p ≤ max a b) : 0 ≤ t ∧ t ≤ g ∧ (t = g → p = b) := by
  have e3 : (g - t) * s = b - p := by rw [Int.sub_mul]; omega
  refine ⟨?_, ?_, fun e => by rw [e, Int.sub_self, Int.zero_mul] at e3; omega⟩
  · by_cases h : 0 < s
    · have := Int.mul_pos hg h
      exact nonneg_of_mul (y := s) (by omega) h
    · have := Int.mul_pos hg (show 0 < -s by omega)
      rw [Int.mul_neg] at this
      exact nonneg_of_mul (y := -s) (by rw [Int.mul_neg]; omega) (by omega)
  · have : 0 ≤ g - t := by
      by_cases h : 0 < s
      · have := Int.mul_pos hg h
        exact nonneg_of_mul (y := s) (by omega) h
      · have := Int.mul_pos hg (show 0 < -s by omega)
        rw [Int.mul_neg] at this
        exact nonneg_of_mul (y := -s) (by rw [Int.mul_neg]; omega) (by omega)
    omega
/-- on a line, but not its last point -/
def Hf (a b p : Pt) : Prop := on a b p ∧ p ≠ b
theorem Hf_iff {a b : Pt} (h : a ≠ b) : ∃ s : Pt, (s.1 ≠ 0 ∨ s.2 ≠ 0) ∧ ∀ p, Hf a b p ↔ ∃ t : Nat, t < St a b ∧ p = (a.1 + t * s.1, a.2 + t * s.2) := by
  have hg := St_pos h
  obtain ⟨u, w, hb⟩ := bez (b.1 - a.1) (b.2 - a.2)
  obtain ⟨s1, h1⟩ := Int.gcd_dvd_left (b.1 - a.1) (b.2 - a.2)
  obtain ⟨s2, h2⟩ := Int.gcd_dvd_right (b.1 - a.1) (b.2 - a.2)
  change b.1 - a.1 = (St a b : Int) * s1 at h1
  change b.2 - a.2 = (St a b : Int) * s2 at h2
  change u * (b.1 - a.1) + w * (b.2 - a.2) = (St a b : Int) at hb
  generalize St a b = g at *
  have hg' : (0 : Int) < g := by omega
  have hb1 : u * s1 + w * s2 = 1 := by
    rw [h1, h2] at hb
    have : (g : Int) * (u * s1 + w * s2) = g * 1 := by rw [Int.mul_one]; grind
    exact Int.eq_of_mul_eq_mul_left (by omega) this
  have hs : s1 ≠ 0 ∨ s2 ≠ 0 := by
    refine Classical.byContradiction fun hn => ?_
    have e1 : s1 = 0 := by omega
    have e2 : s2 = 0 := by omega
    rw [e1, e2] at hb1; omega
  refine ⟨(s1, s2), hs, fun p => ⟨fun ⟨⟨h0, r1, r2, r3, r4⟩, hpb⟩ => ?_, fun ⟨t, ht, e⟩ => ?_⟩⟩
  · have hc : s1 * (p.2 - a.2) = (p.1 - a.1) * s2 := by
      have : (g : Int) * (s1 * (p.2 - a.2)) = g * ((p.1 - a.1) * s2) := by
        unfold tw at h0; rw [h1, h2] at h0; grind
      exact Int.eq_of_mul_eq_mul_left (by omega) this
    have q1 : p.1 - a.1 = (u * (p.1 - a.1) + w * (p.2 - a.2)) * s1 := by grind
    have q2 : p.2 - a.2 = (u * (p.1 - a.1) + w * (p.2 - a.2)) * s2 := by grind
    generalize u * (p.1 - a.1) + w * (p.2 - a.2) = t at *
    have key : ∀ s pi ai bi : Int, s ≠ 0 → bi - ai = g * s → pi - ai = t * s → min ai bi ≤ pi → pi ≤ max ai bi → 0 ≤ t ∧ t ≤ g ∧ (t = g → pi = bi) := fun s pi ai bi h0 h1 h2 h3 h4 => seg_t hg' h0 h1 h2 h3 h4
    have kt : 0 ≤ t ∧ t < g := by
      have fin : 0 ≤ t ∧ t ≤ g := by
        rcases hs with hs | hs
        · have := key s1 _ _ _ hs h1 q1 r1 r2; omega
        · have := key s2 _ _ _ hs h2 q2 r3 r4; omega
      refine ⟨fin.1, ?_⟩
      refine Classical.byContradiction fun hn => hpb ?_
      have et : t = g := by omega
      subst et
      exact Prod.ext (by omega) (by omega)
    refine ⟨t.toNat, by omega, Prod.ext ?_ ?_⟩
    · show p.1 = a.1 + (t.toNat : Int) * s1
      rw [Int.toNat_of_nonneg kt.1]; omega
    · show p.2 = a.2 + (t.toNat : Int) * s2
      rw [Int.toNat_of_nonneg kt.1]; omega
  · subst e
    have ht' : (t : Int) < g := by omega
    have key : ∀ s ai bi : Int, bi - ai = g * s → min ai bi ≤ ai + t * s ∧ ai + t * s ≤ max ai bi ∧ (ai + t * s = bi → s = 0) := by
      intro s ai bi e
      rcases Int.lt_trichotomy s 0 with hs | hs | hs
      · have m1 := Int.mul_nonneg (show (0 : Int) ≤ t by omega) (show 0 ≤ -s by omega)
        have m2 := Int.mul_pos (show (0 : Int) < g - t by omega) (show 0 < -s by omega)
        rw [Int.mul_neg] at m1 m2
        rw [Int.sub_mul] at m2
        refine ⟨by omega, by omega, fun h => by omega⟩
      · subst hs; simp only [Int.mul_zero] at *; refine ⟨by omega, by omega, fun _ => trivial⟩
      · have m1 := Int.mul_nonneg (show (0 : Int) ≤ t by omega) (show 0 ≤ s by omega)
        have m2 := Int.mul_pos (show (0 : Int) < g - t by omega) hs
        rw [Int.sub_mul] at m2
        refine ⟨by omega, by omega, fun h => by omega⟩
    have k1 := key s1 _ _ h1
    have k2 := key s2 _ _ h2
    refine ⟨⟨?_, k1.1, k1.2.1, k2.1, k2.2.1⟩, fun e => ?_⟩
    · show (b.1 - a.1) * (a.2 + t * s2 - a.2) - (a.1 + t * s1 - a.1) * (b.2 - a.2) = 0
      rw [h1, h2]; grind
    · have z1 := k1.2.2 (congrArg Prod.fst e)
      have z2 := k2.2.2 (congrArg Prod.snd e)
      omega
/-- one of a row -/
theorem sm_one {f : Nat → Int} {n k : Nat} (hk : k < n) (h : ∀ i, i < n → i ≠ k → f i = 0) : sm f n = f k := by
  induction n with
  | zero => omega
  | succ n ih =>
    simp only [sm]
    by_cases e : k = n
    · subst e; rw [sm_zero fun i hi => h i (by omega) (by omega)]; omega
    · rw [ih (by omega) (fun i hi hne => h i (by omega) hne), h n (by omega) (by omega)]; omega
theorem bs_point {N : Nat} {q : Pt} (hq : InBox N q) (c : Int) : bs N (fun p => if p = q then c else 0) = c := by
  obtain ⟨x0, x1, y0, y1⟩ := hq
  have e : bx N (q.1 + N).toNat (q.2 + N).toNat = q := Prod.ext (by simp only [bx]; omega) (by simp only [bx]; omega)
  unfold bs
  rw [sm_one (k := (q.2 + N).toNat) (by omega), sm_one (k := (q.1 + N).toNat) (by omega)]
  · rw [e]; exact if_pos rfl
  · intro i hi hne
    refine if_neg ?_
    intro h
    have := congrArg Prod.fst h
    simp only [bx] at this
    omega
  · intro j hj hne
    refine sm_zero fun i hi => if_neg ?_
    intro h
    have := congrArg Prod.snd h
    simp only [bx] at this
    omega
theorem cst (c : Int) (n : Nat) : sm (fun _ => c) n = n * c := by
  induction n with
  | zero => simp [sm]
  | succ n ih => simp only [sm]; rw [ih]; grind
/-- the points of a line, without its last one -/
theorem bs_line {N : Nat} {a b : Pt} (h : a ≠ b) (ha : InBox N a) (hb : InBox N b) : bs N (fun p => if Hf a b p then 1 else 0) = St a b := by
  obtain ⟨s, hs, hi⟩ := Hf_iff h
  have e : bs N (fun p => if Hf a b p then 1 else 0) = bs N (fun p => sm (fun t => if p = (a.1 + t * s.1, a.2 + t * s.2) then 1 else 0) (St a b)) :=
    bs_congr fun p => by
      by_cases hp : Hf a b p
      · rw [if_pos hp]
        obtain ⟨t, ht, e⟩ := (hi p).1 hp
        rw [sm_one ht, if_pos e]
        intro i _ hne
        rw [if_neg]
        intro e'
        rw [e] at e'
        have e1 := congrArg Prod.fst e'
        have e2 := congrArg Prod.snd e'
        simp only [] at e1 e2
        rcases hs with hs | hs
        · have : ((t : Int) - i) * s.1 = 0 := by rw [Int.sub_mul]; omega
          rcases Int.mul_eq_zero.1 this with h | h
          · omega
          · exact hs h
        · have : ((t : Int) - i) * s.2 = 0 := by rw [Int.sub_mul]; omega
          rcases Int.mul_eq_zero.1 this with h | h
          · omega
          · exact hs h
      · rw [if_neg hp]
        exact (sm_zero fun t ht => by rw [if_neg]; intro e; exact hp ((hi p).2 ⟨t, ht, e⟩)).symm
  rw [e, bs_sm]
  have : sm (fun t => bs N (fun p => if p = (a.1 + (t : Int) * s.1, a.2 + (t : Int) * s.2) then 1 else 0)) (St a b) = sm (fun _ => 1) (St a b) :=
    sm_congr fun t ht => by
      refine bs_point ?_ 1
      have hf := ((hi (a.1 + t * s.1, a.2 + t * s.2)).2 ⟨t, ht, rfl⟩).1
      obtain ⟨_, r1, r2, r3, r4⟩ := hf
      obtain ⟨a0, a1, a2, a3⟩ := ha
      obtain ⟨b0, b1, b2, b3⟩ := hb
      refine ⟨?_, ?_, ?_, ?_⟩ <;> omega
  rw [this, cst]; omega
/-- how many lines have a point, each without its last point -/
noncomputable def Bn (v : Nat → Pt) (n : Nat) (p : Pt) : Int := sm (fun k => if Hf (v k) (v (k + 1)) p then 1 else 0) n
theorem Hf_two {v : Nat → Pt} {n : Nat} (h : Poly v n) {p : Pt} {k j : Nat} (hkj : k < j) (hj : j < n) (h1 : Hf (v k) (v (k + 1)) p) (h2 : Hf (v j) (v (j + 1)) p) : False := by
  rcases on_in h1.1 with e | e | hx
  · subst e
    by_cases hc : j + 2 ≤ k + n
    · exact corner_off h k (by omega) hc h2.1
    · have e1 : j + 1 = 0 + n := by omega
      have e0 : k = 0 := by omega
      rw [e1, h.per] at h2
      rw [e0] at h2
      exact h2.2 rfl
  · exact h1.2 e
  · exact mid_off h k hx (by omega) (by omega) h2.1
theorem Hf_bd {v : Nat → Pt} {n : Nat} (h : Poly v n) {p : Pt} (hb : Bd v p) : ∃ k, k < n ∧ Hf (v k) (v (k + 1)) p := by
  have h3 := h.three
  have red : ∀ k, Hf (v k) (v (k + 1)) p → ∃ k, k < n ∧ Hf (v k) (v (k + 1)) p := by
    intro k hk
    refine ⟨k % n, Nat.mod_lt _ (by omega), ?_⟩
    rw [← per_mod h.per k]
    have : v (k % n + 1) = v (k + 1) := by rw [per_mod h.per (k + 1), per_mod h.per (k % n + 1), Nat.mod_add_mod]
    rw [this]; exact hk
  obtain ⟨k, hk⟩ := hb
  by_cases e : p = v (k + 1)
  · exact red (k + 1) ⟨by rw [e]; exact on_left _ _, by rw [e]; exact (h.adj (k + 1)).1⟩
  · exact red k ⟨hk, e⟩
theorem Bn_on {v : Nat → Pt} {n : Nat} (h : Poly v n) {p : Pt} {k : Nat} (hk : k < n) (hf : Hf (v k) (v (k + 1)) p) : Bn v n p = 1 := by
  unfold Bn
  rw [sm_one hk, if_pos hf]
  intro i hi hne
  rw [if_neg]
  intro w
  rcases Nat.lt_or_gt_of_ne hne with hl | hl
  · exact Hf_two h hl hk w hf
  · exact Hf_two h hl hi hf w
theorem Bn_off {v : Nat → Pt} {n : Nat} {p : Pt} (hb : ¬ Bd v p) : Bn v n p = 0 :=
  sm_zero fun i _ => by rw [if_neg]; intro w; exact hb ⟨i, w.1⟩
/-- off the lines both counts are the same -/
def ph (p q : Pt) : Int := if p.2 < q.2 then 1 else if q.2 < p.2 then 0 else if q.1 < p.1 then 1 else 0
theorem both_line {a b p : Pt} (h : ¬ on a b p) : cr a b p - rh a b p = ph p b - ph p a := by
  have lv : tw a b p = 0 → a.2 ≠ b.2 → ¬ ((a.2 ≤ p.2 ∧ p.2 ≤ b.2) ∨ (b.2 ≤ p.2 ∧ p.2 ≤ a.2)) := fun h0 hne hc => h (on_of_level a b p h0 hc hne)
  have t1 : a.2 = p.2 → tw a b p = (a.1 - p.1) * (b.2 - p.2) := fun e => by unfold tw; rw [← e]; grind
  have t2 : b.2 = p.2 → tw a b p = (b.1 - p.1) * (p.2 - a.2) := fun e => by unfold tw; rw [← e]; grind
  have s1 := signs (a.1 - p.1) (b.2 - p.2)
  have s2 := signs (b.1 - p.1) (p.2 - a.2)
  have hz : a.2 = b.2 → b.2 = p.2 → ¬ (min a.1 b.1 ≤ p.1 ∧ p.1 ≤ max a.1 b.1) := fun e1 e2 hc => h ⟨by unfold tw; rw [e1, e2]; grind, hc.1, hc.2, by omega, by omega⟩
  unfold cr rh ph
  generalize (a.1 - p.1) * (b.2 - p.2) = m1 at *
  generalize (b.1 - p.1) * (p.2 - a.2) = m2 at *
  generalize tw a b p = T at *
  clear h
  rcases tri a.2 p.2 with ⟨x1, x2, x3, x4⟩ | ⟨x1, x2, x3, x4⟩ | ⟨x1, x2, x3, x4⟩ <;> rcases tri b.2 p.2 with ⟨y1, y2, y3, y4⟩ | ⟨y1, y2, y3, y4⟩ | ⟨y1, y2, y3, y4⟩
  all_goals
    first
    | (simp only [x1, x2, x3, x4, y1, y2, y3, y4, true_and, false_and, and_false, if_true, if_false]; done)
    | (simp only [x1, x2, x3, x4, y1, y2, y3, y4, true_and, false_and, and_false, if_true, if_false]
       ((repeat' split) <;> omega))
theorem both_off {v : Nat → Pt} {n : Nat} (h : Poly v n) {p : Pt} (hb : ¬ Bd v p) : WN (fun i => ng (v i)) n (ng p) = WN v n p := by
  have e : WN (fun i => ng (v i)) n (ng p) = sm (fun j => rh (v j) (v (j + 1)) p) n := sm_congr fun j _ => cr_ng _ _ _
  have t := sm_tele (fun j => ph p (v j)) n
  have p0 := h.per 0
  rw [Nat.zero_add] at p0
  rw [p0, Int.sub_self] at t
  have : sm (fun j => cr (v j) (v (j + 1)) p - rh (v j) (v (j + 1)) p) n = sm (fun i => ph p (v (i + 1)) - ph p (v i)) n :=
    sm_congr fun j _ => both_line fun w => hb ⟨j, w⟩
  rw [sm_sub, t] at this
  rw [e]
  unfold WN
  omega
/-- what a corner lacks -/
def Lk (v : Nat → Pt) (n k : Nat) : Int := 1 - co (v (k + n - 1)) (v k) (v (k + 1)) - co (ng (v (k + n - 1))) (ng (v k)) (ng (v (k + 1)))
noncomputable def Ins (v : Nat → Pt) (n : Nat) (p : Pt) : Int := if Bd v p then 0 else WN v n p
theorem Vn_all {v : Nat → Pt} {n : Nat} (h : Poly v n) (p : Pt) : Vn v n p = 2 * Ins v n p + ((2 * Cs v n - 1) * Bn v n p + sm (fun k => if p = v k then Lk v n k else 0) n) := by
  have h3 := h.three
  have self : ∀ k, Hf (v k) (v (k + 1)) (v k) := fun k => ⟨on_left _ _, (h.adj k).1⟩
  by_cases hb : Bd v p
  · obtain ⟨k, hk, hf⟩ := Hf_bd h hb
    have uniq : ∀ j, j < n → j ≠ k → ¬ Hf (v j) (v (j + 1)) p := by
      intro j hj hne w
      rcases Nat.lt_or_gt_of_ne hne with hl | hl
      · exact Hf_two h hl hk w hf
      · exact Hf_two h hl hj hf w
    rw [Bn_on h hk hf]
    unfold Ins
    rw [if_pos hb, sm_one hk (fun i hi hne => by rw [if_neg]; intro e; exact uniq i hi hne (e ▸ self i))]
    rcases on_in hf.1 with e | e | hx
    · rw [if_pos e, e, Vn_corner h k]; unfold Lk; omega
    · exact absurd e hf.2
    · rw [if_neg (in_ne hx).1, Vn_in h k hx]; omega
  · rw [Bn_off hb]
    unfold Ins
    rw [if_neg hb, sm_zero (fun k _ => by rw [if_neg]; intro e; exact hb ⟨k, by rw [e]; exact on_left _ _⟩)]
    unfold Vn
    rw [both_off h hb]
    omega
/-- PICK, with its sign -/
theorem pick {v : Nat → Pt} {n N : Nat} (h : Poly v n) (hN : ∀ i, InBox N (v i)) :
    Ar v n = 2 * bs N (Ins v n) + (2 * Cs v n - 1) * (sm (fun k => (St (v k) (v (k + 1)) : Int)) n - 2) := by
  have h3 := h.three
  have e := Ar_eq (n := n) h.per hN
  have e1 : Ar v n = bs N (fun p => 2 * Ins v n p + ((2 * Cs v n - 1) * Bn v n p + sm (fun k => if p = v k then Lk v n k else 0) n)) := by
    rw [e]; exact bs_congr fun p => Vn_all h p
  have mul : ∀ (c : Int) (f : Pt → Int), bs N (fun p => c * f p) = c * bs N f := by
    intro c f
    unfold bs
    rw [← sm_mul]
    exact sm_congr fun j _ => sm_mul _ _ _
  have b : bs N (Bn v n) = sm (fun k => (St (v k) (v (k + 1)) : Int)) n := by
    have : bs N (Bn v n) = sm (fun k => bs N (fun p => if Hf (v k) (v (k + 1)) p then 1 else 0)) n := bs_sm N _ n
    rw [this]
    exact sm_congr fun k _ => bs_line (h.adj k).1 (hN _) (hN _)
  have c : bs N (fun p => sm (fun k => if p = v k then Lk v n k else 0) n) = sm (Lk v n) n := by
    rw [bs_sm]
    exact sm_congr fun k _ => bs_point (hN k) _
  rw [e1, bs_add, bs_add, mul, mul, b, c]
  have l : sm (Lk v n) n = -2 * Tn v n := by
    have shift : ∀ f : Nat → Int, (∀ i, f (i + n) = f i) → sm (fun k => f (k + n - 1)) n = sm f n := by
      intro f hf
      have := sm_shift hf (n - 1)
      rw [← this]
      exact sm_congr fun k _ => by rw [show k + n - 1 = n - 1 + k by omega]
    have s1 := shift (fun k => co (v k) (v (k + 1)) (v (k + 2))) (fun i => by rw [show i + n + 1 = i + 1 + n by omega, show i + n + 2 = i + 2 + n by omega, h.per, h.per, h.per])
    have s2 := shift (fun k => up (v k) (v (k + 1))) (fun i => by rw [show i + n + 1 = i + 1 + n by omega, h.per, h.per])
    have q : sm (Lk v n) n = sm (fun k => (up (v (k + n - 1)) (v (k + n - 1 + 1)) + up (v k) (v (k + 1))) - 2 * co (v (k + n - 1)) (v (k + n - 1 + 1)) (v (k + n - 1 + 2))) n :=
      sm_congr fun k _ => by
        unfold Lk
        rw [co_ng (adj_at h.toSimple k), show k + n - 1 + 1 = k + n by omega, show k + n - 1 + 2 = k + 1 + n by omega, h.per, h.per]
        omega
    rw [q, sm_sub, sm_add, sm_mul, s1, s2]
    unfold Tn
    rw [sm_sub]
    omega
  rw [l, Tn_eq h.toSimple]
  grind
/-- a point inside counts once, to the polygon's side -/
theorem Ins_eq {v : Nat → Pt} {n : Nat} (h : Poly v n) (p : Pt) : Ins v n p = (2 * Cs v n - 1) * (if ¬ Bd v p ∧ WN v n p ≠ 0 then 1 else 0) := by
  unfold Ins
  have c := Cs_01 h.toSimple
  by_cases hb : Bd v p
  · rw [if_pos hb, if_neg (fun w => w.1 hb), Int.mul_zero]
  · rw [if_neg hb]
    have j := jordan h hb
    by_cases hw : WN v n p = 0
    · rw [if_neg (fun w => w.2 hw), hw, Int.mul_zero]
    · rw [if_pos ⟨hb, hw⟩]; omega
/-- PICK'S RULE -/
theorem pick_abs {v : Nat → Pt} {n N : Nat} (h : Poly v n) (hN : ∀ i, InBox N (v i)) :
    (Ar v n).natAbs + 2 = 2 * bs N (fun p => if ¬ Bd v p ∧ WN v n p ≠ 0 then 1 else 0) + sm (fun k => (St (v k) (v (k + 1)) : Int)) n := by
  have p := pick h hN
  have mul : ∀ (c : Int) (f : Pt → Int), bs N (fun p => c * f p) = c * bs N f := by
    intro c f
    unfold bs
    rw [← sm_mul]
    exact sm_congr fun j _ => sm_mul _ _ _
  have e : bs N (Ins v n) = (2 * Cs v n - 1) * bs N (fun p => if ¬ Bd v p ∧ WN v n p ≠ 0 then 1 else 0) := by
    rw [← mul]; exact bs_congr fun p => Ins_eq h p
  rw [e] at p
  have s := Ar_side h hN
  rcases Cs_01 h.toSimple with c | c
  · have := s.2 c
    rw [c] at p
    omega
  · have := s.1 c
    rw [c] at p
    omega
/-- the points on the lines are no more than twice the area and two -/
theorem pick_le {v : Nat → Pt} {n N : Nat} (h : Poly v n) (hN : ∀ i, InBox N (v i)) : sm (fun k => (St (v k) (v (k + 1)) : Int)) n ≤ (Ar v n).natAbs + 2 := by
  have p := pick_abs h hN
  have q : 0 ≤ bs N (fun p => if ¬ Bd v p ∧ WN v n p ≠ 0 then 1 else 0) := bs_nn fun p => by split <;> omega
  omega
/-- a point inside -/
noncomputable def inC (v : Nat → Pt) (n : Nat) (p : Pt) : Int := if ¬ Bd v p ∧ WN v n p ≠ 0 then 1 else 0
theorem inC_1 {v : Nat → Pt} {n : Nat} {p : Pt} (h1 : ¬ Bd v p) (h2 : WN v n p ≠ 0) : inC v n p = 1 := if_pos ⟨h1, h2⟩
theorem inC_0 {v : Nat → Pt} {n : Nat} {p : Pt} (h : Bd v p ∨ WN v n p = 0) : inC v n p = 0 := if_neg fun w => h.elim w.1 w.2
theorem pick_in {v : Nat → Pt} {n N : Nat} (h : Poly v n) (hN : ∀ i, InBox N (v i)) : (Ar v n).natAbs + 2 = 2 * bs N (inC v n) + sm (fun k => (St (v k) (v (k + 1)) : Int)) n := pick_abs h hN
end Go.Proofs.Ytjkfdcjfoliboaa.MJ
/- lists of points in memory that the call itself made: they may be written; marks -/
namespace Go.Proofs.Ytjkfdcjfoliboaa
open Go.ChangeShapes Go.WideShapes Go.ChangeAt Go.RowKit Go.Joins
set_option linter.unusedVariables false
set_option linter.unusedSimpArgs false
set_option maxRecDepth 4000
theorem rd_of_set {w : World} {g : Nat} {l : List (Int × Int)} (h : Set w g l.length l.length l) : Rd w w.heap.size (some ⟨g, 0, none⟩) l := by
  intro _
  refine ⟨g, 0, rfl, h.1, fun i p hp => ?_⟩
  rw [Nat.zero_add]
  exact h.2.2 i p (List.getElem?_eq_some_iff.1 hp).1 hp
/-- the slice's cells from address A on hold the points f 0, .., f (n - 1), may be written, and lie from block lo on, below block B -/
def Rw (w : World) (lo B : Nat) (A : Option Addr) (n : Nat) (f : Nat → Int × Int) : Prop :=
  0 < n → ∃ b off, A = some ⟨b, off, none⟩ ∧ lo ≤ b ∧ b < B ∧ ∀ i, i < n →
    (w.cell? ⟨b, off + i * 2, none⟩ = some (.int .i64 (f i).1) ∧ w.cell? ⟨b, off + i * 2 + 1, none⟩ = some (.int .i64 (f i).2)) ∧
    w.frozen? ⟨b, off + i * 2, none⟩ = false ∧ w.frozen? ⟨b, off + i * 2 + 1, none⟩ = false
/-- nothing turns but cells of blocks from lo on, below B -/
structure Only (lo B : Nat) (w w' : World) : Prop where
  os : w'.os = w.os
  tape : w'.tape = w.tape
  output : w'.output = w.output
  size : w'.heap.size = w.heap.size
  block : ∀ k, (k < lo ∨ B ≤ k) → w'.heap[k]? = w.heap[k]?
theorem Only.refl (lo B : Nat) (w : World) : Only lo B w w := ⟨rfl, rfl, rfl, rfl, fun _ _ => rfl⟩
theorem Only.below {lo B : Nat} {w w' : World} (h : Only lo B w w') : Below lo w w' := ⟨h.os, h.tape, h.output, Nat.le_of_eq h.size.symm, fun k hk => h.block k (.inl hk)⟩
theorem Only.set {lo B : Nat} {a w : World} (h : Only lo B a w) {p : Addr} (h1 : lo ≤ p.block) (h2 : p.block < B) (u : Value) : Only lo B a (w.setCell p u) :=
  ⟨h.os, h.tape, h.output, (by simp [World.setCell]; exact h.size), fun k hk => (Below.heap_setCell w p u k (by omega)).trans (h.block k hk)⟩
theorem Only.more {lo B lo' B' : Nat} {w w' : World} (h : Only lo B w w') (h1 : lo' ≤ lo) (h2 : B ≤ B') : Only lo' B' w w' := ⟨h.os, h.tape, h.output, h.size, fun k hk => h.block k (by omega)⟩
theorem rw_block {w w' : World} {lo B : Nat} {A : Option Addr} {n : Nat} {f : Nat → Int × Int} (h : Rw w lo B A n f) (hk : ∀ k, lo ≤ k → k < B → w'.heap[k]? = w.heap[k]?) : Rw w' lo B A n f := by
  intro hn
  obtain ⟨b, off, e, hb1, hb2, hc⟩ := h hn
  have c : ∀ o, w'.cell? ⟨b, o, none⟩ = w.cell? ⟨b, o, none⟩ := fun o => World.cell?_of_block (hk b hb1 hb2)
  have z : ∀ o, w'.frozen? ⟨b, o, none⟩ = w.frozen? ⟨b, o, none⟩ := fun o => World.frozen?_of_block (hk b hb1 hb2)
  exact ⟨b, off, e, hb1, hb2, fun i hi => by rw [c, c, z, z]; exact hc i hi⟩
theorem rw_below {w w' : World} {lo B B' : Nat} {A : Option Addr} {n : Nat} {f : Nat → Int × Int} (h : Rw w lo B A n f) (hb : Below B' w w') (hB : B ≤ B') : Rw w' lo B A n f :=
  rw_block h fun k _ h2 => hb.block k (by omega)
theorem rw_only {w w' : World} {lo B lo' B' : Nat} {A : Option Addr} {n : Nat} {f : Nat → Int × Int} (h : Rw w lo B A n f) (ho : Only lo' B' w w') (hd : B ≤ lo' ∨ B' ≤ lo) : Rw w' lo B A n f :=
  rw_block h fun k h1 h2 => ho.block k (by omega)
theorem rw_more {w : World} {lo B lo' B' : Nat} {A : Option Addr} {n : Nat} {f : Nat → Int × Int} (h : Rw w lo B A n f) (h1 : lo' ≤ lo) (h2 : B ≤ B') : Rw w lo' B' A n f := by
  intro hn
  obtain ⟨b, off, e, hb1, hb2, hc⟩ := h hn
  exact ⟨b, off, e, by omega, by omega, hc⟩
theorem rw_same {w : World} {lo B : Nat} {A : Option Addr} {n : Nat} {f g : Nat → Int × Int} (h : Rw w lo B A n f) (he : ∀ i, i < n → f i = g i) : Rw w lo B A n g := by
  intro hn
  obtain ⟨b, off, e, hb1, hb2, hc⟩ := h hn
  exact ⟨b, off, e, hb1, hb2, fun i hi => by rw [← he i hi]; exact hc i hi⟩
/-- the points of a list, as a row -/
def pt (l : List (Int × Int)) (i : Nat) : Int × Int := (l[i]?).getD (0, 0)
theorem pt_get {l : List (Int × Int)} {i : Nat} (h : i < l.length) : l[i]? = some (pt l i) := by
  unfold pt; rw [List.getElem?_eq_getElem h]; rfl
theorem rw_rd {w : World} {lo B : Nat} {A : Option Addr} {l : List (Int × Int)} (h : Rw w lo B A l.length (pt l)) : Rd w B A l := by
  intro hn
  obtain ⟨b, off, e, hb1, hb2, hc⟩ := h hn
  refine ⟨b, off, e, hb2, fun i p hp => ?_⟩
  have hi := (List.getElem?_eq_some_iff.1 hp).1
  rw [pt_get hi] at hp
  injection hp with hp
  rw [← hp]
  exact (hc i hi).1
theorem rw_of_set {w : World} {g : Nat} {l : List (Int × Int)} (h : Set w g l.length l.length l) : Rw w g (g + 1) (some ⟨g, 0, none⟩) l.length (pt l) := by
  intro _
  refine ⟨g, 0, rfl, Nat.le_refl _, by omega, fun i hi => ?_⟩
  rw [Nat.zero_add]
  exact ⟨h.2.2 i _ hi (pt_get hi), (h.2.1 i hi).2.2⟩
/-- two cells written -/
theorem rw_store {w : World} {lo B b off n k : Nat} {f : Nat → Int × Int} (h : Rw w lo B (some ⟨b, off, none⟩) n f) (hk : k < n) (x y : Int) :
    Rw ((w.setCell ⟨b, off + k * 2, none⟩ (.int .i64 x)).setCell ⟨b, off + k * 2 + 1, none⟩ (.int .i64 y)) lo B (some ⟨b, off, none⟩) n (fun j => if j = k then (x, y) else f j) := by
  intro hn
  obtain ⟨b', off', e, hb1, hb2, hc⟩ := h hn
  injection e with e
  injection e with e1 e2
  subst e1 e2
  have ne : ∀ (W : World) (o o' : Nat) (v : Value), o' ≠ o → (W.setCell ⟨b, o', none⟩ v).cell? ⟨b, o, none⟩ = W.cell? ⟨b, o, none⟩ := fun W o o' v h =>
    World.cell?_setCell_other W _ _ _ (fun e => h (by injection e))
  have sm : ∀ (W : World) (o : Nat) (u v : Value), W.cell? ⟨b, o, none⟩ = some u → (W.setCell ⟨b, o, none⟩ v).cell? ⟨b, o, none⟩ = some v := fun W o u v h => World.cell?_setCell_same W _ _ h
  refine ⟨b, off, rfl, hb1, hb2, fun i hi => ?_⟩
  obtain ⟨⟨c1, c2⟩, z1, z2⟩ := hc i hi
  refine ⟨?_, ?_, ?_⟩
  · by_cases hik : i = k
    · subst hik
      simp only [if_true]
      have c2' : (w.setCell ⟨b, off + i * 2, none⟩ (.int .i64 x)).cell? ⟨b, off + i * 2 + 1, none⟩ = some (.int .i64 (f i).2) := by rw [ne _ _ _ _ (by omega)]; exact c2
      exact ⟨by rw [ne _ _ _ _ (by omega)]; exact sm _ _ _ _ c1, sm _ _ _ _ c2'⟩
    · simp only [hik, if_false]
      rw [ne _ _ _ _ (by omega), ne _ _ _ _ (by omega), ne _ _ _ _ (by omega), ne _ _ _ _ (by omega)]
      exact ⟨c1, c2⟩
  · rw [World.frozen?_setCell, World.frozen?_setCell]; exact z1
  · rw [World.frozen?_setCell, World.frozen?_setCell]; exact z2
end Go.Proofs.Ytjkfdcjfoliboaa
/- rows of points that a call appends to; the model's list told backwards -/
namespace Go.Proofs.Ytjkfdcjfoliboaa
open Go.ChangeShapes Go.WideShapes Go.ChangeAt Go.RowKit Go.Joins
set_option linter.unusedVariables false
set_option linter.unusedSimpArgs false
set_option maxRecDepth 4000
/-- points as cells -/
def flat (l : List (Int × Int)) : List Value := l.flatMap fun p => [.int .i64 p.1, .int .i64 p.2]
theorem flat_nil : flat [] = [] := rfl
theorem flat_snoc (l : List (Int × Int)) (p : Int × Int) : flat (l ++ [p]) = flat l ++ [.int .i64 p.1, .int .i64 p.2] := by
  unfold flat; rw [List.flatMap_append]; rfl
theorem flat_get (l : List (Int × Int)) : ∀ i, i < l.length → (flat l)[i * 2]? = some (.int .i64 (pt l i).1) ∧ (flat l)[i * 2 + 1]? = some (.int .i64 (pt l i).2) := by
  induction l with
  | nil => intro i h; simp at h
  | cons p l ih =>
    intro i hi
    have e : flat (p :: l) = [.int .i64 p.1, .int .i64 p.2] ++ flat l := rfl
    rw [e]
    cases i with
    | zero => exact ⟨rfl, rfl⟩
    | succ i =>
      have h := ih i (by simpa using hi)
      have e2 : pt (p :: l) (i + 1) = pt l i := rfl
      rw [e2, show (i + 1) * 2 = 2 + i * 2 by omega, List.getElem?_append_right (by simp), List.getElem?_append_right (by simp; omega)]
      simpa [show 2 + i * 2 - 2 = i * 2 by omega, show 2 + i * 2 + 1 - 2 = i * 2 + 1 by omega] using h
/-- what a row of the call's own reads as -/
theorem rw_of_own {w : World} {base : Nat} {v : Value} {l : List (Int × Int)} (h : w.ownsRow base 34 2 v l.length (flat l)) :
    ∃ A c, v = .slice A l.length c ∧ l.length ≤ c ∧ c ≤ maxLen ∧ Rw w base w.heap.size A l.length (pt l) := by
  have h0 := h
  obtain ⟨h1, h2⟩ := h
  rcases h2 with ⟨hv, hn⟩ | ⟨g, cap, cur, hv, hg, hh, hc, hm, hs, ht⟩
  · exact ⟨none, 0, by rw [hv, hn], by omega, by simp [maxLen], fun hp => absurd hp (by omega)⟩
  · subst hv
    refine ⟨some ⟨g, 0, none⟩, cap, rfl, hc, hm, fun hp => ⟨g, 0, rfl, hg, (h0.lt g rfl).2, fun i hi => ?_⟩⟩
    have hf := flat_get l i hi
    rw [Nat.zero_add]
    exact ⟨⟨(h0.cellAt (i * 2) (by omega)).trans hf.1, (h0.cellAt (i * 2 + 1) (by omega)).trans hf.2⟩, h0.frozenAt _, h0.frozenAt _⟩
/-- the first k of the points f 0, f 1, .. -/
def firsts (f : Nat → Int × Int) (k : Nat) : List (Int × Int) := (List.range k).map f
theorem firsts_len (f : Nat → Int × Int) (k : Nat) : (firsts f k).length = k := by unfold firsts; simp
theorem firsts_succ (f : Nat → Int × Int) (k : Nat) : firsts f (k + 1) = firsts f k ++ [f k] := by unfold firsts; rw [List.range_succ, List.map_append]; rfl
theorem firsts_pt (f : Nat → Int × Int) (k i : Nat) (h : i < k) : pt (firsts f k) i = f i := by
  unfold pt firsts; rw [List.getElem?_map, List.getElem?_range h]; rfl
theorem firsts_get (f : Nat → Int × Int) (k i : Nat) (h : i < k) : (firsts f k)[i]? = some (f i) := by
  unfold firsts; rw [List.getElem?_map, List.getElem?_range h]; rfl
/-- a row that has grown by append: the first k points -/
def Row (w : World) (base : Nat) (v : Value) (f : Nat → Int × Int) (k : Nat) : Prop := w.ownsRow base 34 2 v k (flat (firsts f k))
theorem row_nil (w : World) (base : Nat) (f : Nat → Int × Int) : Row w base (.slice none 0 0) f 0 := World.ownsRow_nil w base _ _
theorem row_step {w : World} {base : Nat} {v : Value} {f : Nat → Int × Int} {k : Nat} (h : w.ownsRow base 34 2 v (k + 1) (flat (firsts f k) ++ [.int .i64 (f k).1, .int .i64 (f k).2])) : Row w base v f (k + 1) := by
  unfold Row; rw [firsts_succ, flat_snoc]; exact h
theorem row_out {w : World} {base : Nat} {v : Value} {f : Nat → Int × Int} {k : Nat} (h : Row w base v f k) :
    ∃ A c, v = .slice A k c ∧ k ≤ c ∧ c ≤ maxLen ∧ Rw w base w.heap.size A k f := by
  have h' : w.ownsRow base 34 2 v (firsts f k).length (flat (firsts f k)) := by rw [firsts_len]; exact h
  obtain ⟨A, c, e, h1, h2, h3⟩ := rw_of_own h'
  rw [firsts_len] at e h1 h3
  exact ⟨A, c, e, h1, h2, rw_same h3 fun i hi => firsts_pt f k i hi⟩
theorem row_alloc {w : World} {base : Nat} {v : Value} {f : Nat → Int × Int} {k : Nat} (h : Row w base v f k) (o : Obj) : Row (w.alloc o) base v f k := World.ownsRow.alloc h o
theorem row_below {w w' : World} {base B : Nat} {v : Value} {f : Nat → Int × Int} {k : Nat} (h : Row w base v f k) (hb : Below B w w') (hB : w.heap.size ≤ B) : Row w' base v f k := by
  obtain ⟨h1, h2⟩ := h
  rcases h2 with h2 | ⟨g, cap, cur, hv, hg, hh, r⟩
  · exact ⟨h1, .inl h2⟩
  · have hl := World.ownsRow.lt (w := w) (base := base) (e := 34) (size := 2) (v := v) (n := k) (xs := flat (firsts f k)) ⟨h1, .inr ⟨g, cap, cur, hv, hg, hh, r⟩⟩ g (by rw [hv]; rfl)
    exact ⟨h1, .inr ⟨g, cap, cur, hv, hg, (hb.block g (by omega)).trans hh, r⟩⟩
/-- behind an append -/
theorem row_push {w W w1 : World} {v v' : Value} {f : Nat → Int × Int} {k : Nat} (hB : Below w.heap.size w W) (hr : Row W w.heap.size v f k)
    (ho : w1.ownsRow w.heap.size 34 2 v' (k + 1) (flat (firsts f k) ++ [.int .i64 (f k).1, .int .i64 (f k).2])) (hg : W.grownBy w1 v.ownBlock) : Row w1 w.heap.size v' f (k + 1) ∧ Below w.heap.size w w1 :=
  ⟨row_step ho, hB.grown hg hB.size fun g hgk => (World.ownsRow.lt hr g hgk).1⟩
theorem two_cells {w : World} {g : Nat} {x y : Value} (h1 : w.cell? ⟨g, 0, none⟩ = some x) (h2 : w.cell? ⟨g, 1, none⟩ = some y) : ∀ j u, [x, y][j]? = some u → w.cell? ((⟨g, 0, none⟩ : Addr).add j) = some u := by
  intro j u hj
  match j, hj with
  | 0, hj => simp at hj; subst hj; exact h1
  | 1, hj => simp at hj; subst hj; exact h2
theorem two_one (x y : Int) : ∀ u ∈ [Value.int .i64 x, Value.int .i64 y], u.oneCell' = true := by
  intro u hu; simp at hu; rcases hu with rfl | rfl <;> rfl
/-- what a call returns that gives a list of points and says whether there is one -/
def RetL (w : World) (m : List (Int × Int)) (b : Bool) (e : Ending) (w' : World) : Prop :=
  ∃ A c, e = .returned (.tuple #[.slice A m.length c, .bool b]) ∧ m.length ≤ c ∧ c ≤ maxLen ∧ Below w.heap.size w w' ∧ Rw w' w.heap.size w'.heap.size A m.length (pt m)
/-- what a call returns that gives a list of points -/
def RetP (w : World) (m : List (Int × Int)) (e : Ending) (w' : World) : Prop :=
  ∃ A c, e = .returned (.slice A m.length c) ∧ m.length ≤ c ∧ c ≤ maxLen ∧ Below w.heap.size w w' ∧ Rw w' w.heap.size w'.heap.size A m.length (pt m)
theorem retP_row {w w' : World} {v : Value} {f : Nat → Int × Int} {k : Nat} (h : Row w' w.heap.size v f k) (hb : Below w.heap.size w w') : RetP w (firsts f k) (.returned v) w' := by
  obtain ⟨A, c, rfl, h1, h2, h3⟩ := row_out h
  refine ⟨A, c, by rw [firsts_len], by rw [firsts_len]; exact h1, h2, hb, ?_⟩
  rw [firsts_len]
  exact rw_same h3 fun i hi => (firsts_pt f k i hi).symm
theorem retL_nil {w w' : World} (hb : Below w.heap.size w w') : RetL w [] false (.returned (.tuple #[.slice none 0 0, .bool false])) w' :=
  ⟨none, 0, rfl, by simp, by simp [maxLen], hb, fun h => absurd h (by simp)⟩
theorem retL_of_P {w w1 w2 : World} {m : List (Int × Int)} {A : Option Addr} {c : Nat} (hb1 : Below w.heap.size w w1) (h1 : m.length ≤ c) (h2 : c ≤ maxLen) (hb2 : Below w1.heap.size w1 w2) (h : Rw w2 w1.heap.size w2.heap.size A m.length (pt m)) :
    RetL w m true (.returned (.tuple #[.slice A m.length c, .bool true])) w2 :=
  ⟨A, c, rfl, h1, h2, hb1.trans (hb2.mono hb1.size), rw_more h hb1.size (Nat.le_refl _)⟩
theorem retL_up {w w1 w2 : World} {m : List (Int × Int)} {b : Bool} {e : Ending} (hb1 : Below w.heap.size w w1) (h : RetL w1 m b e w2) : RetL w m b e w2 := by
  obtain ⟨A, c, e, h1, h2, h3, h4⟩ := h
  exact ⟨A, c, e, h1, h2, hb1.trans (h3.mono hb1.size), rw_more h4 hb1.size (Nat.le_refl _)⟩
end Go.Proofs.Ytjkfdcjfoliboaa
/- a list or none -/
namespace Go.Proofs.Ytjkfdcjfoliboaa
open Go.ChangeShapes Go.WideShapes Go.ChangeAt Go.RowKit Go.Joins
set_option linter.unusedVariables false
set_option linter.unusedSimpArgs false
set_option maxRecDepth 4000
def sel (b : Bool) (m : List (Int × Int)) : List (Int × Int) := if b = true then m else []
end Go.Proofs.Ytjkfdcjfoliboaa
/- the least and the greatest numbers of corners -/
namespace Go.Proofs.Ytjkfdcjfoliboaa
open Go.ChangeShapes Go.WideShapes Go.ChangeAt Go.RowKit Go.Joins
set_option linter.unusedVariables false
set_option linter.unusedSimpArgs false
set_option maxRecDepth 4000
/-- the least and the greatest numbers of corner 0 and of the first k corners -/
def loN (l : List (Int × Int)) : Nat → Int × Int
  | 0 => vx l 0
  | k + 1 => (min (loN l k).1 (vx l k).1, min (loN l k).2 (vx l k).2)
def hiN (l : List (Int × Int)) : Nat → Int × Int
  | 0 => vx l 0
  | k + 1 => (max (hiN l k).1 (vx l k).1, max (hiN l k).2 (vx l k).2)
end Go.Proofs.Ytjkfdcjfoliboaa
/- plain: the points inside a polygon, column by column; rows that have grown to a list -/
namespace Go.Proofs.Ytjkfdcjfoliboaa
open Go.ChangeShapes Go.WideShapes Go.ChangeAt Go.RowKit Go.Joins
set_option linter.unusedVariables false
set_option linter.unusedSimpArgs false
set_option maxRecDepth 4000
/-- the points inside among m of a column, from y0 on -/
noncomputable def colR (l : List (Int × Int)) (x y0 : Int) : Nat → List (Int × Int)
  | 0 => []
  | m + 1 => colR l x y0 m ++ (if whN l (x, y0 + m) = 1 then [(x, y0 + m)] else [])
/-- the points inside in i columns -/
noncomputable def gridR (l : List (Int × Int)) (x0 y0 : Int) (rows : Nat) : Nat → List (Int × Int)
  | 0 => []
  | i + 1 => gridR l x0 y0 rows i ++ colR l (x0 + i) y0 rows
theorem colR_app (l : List (Int × Int)) (x y0 : Int) (a b : Nat) : colR l x y0 (a + b) = colR l x y0 a ++ colR l x (y0 + a) b := by
  induction b with
  | zero => simp [colR]
  | succ b ih =>
    have e : colR l x y0 (a + (b + 1)) = colR l x y0 (a + b) ++ (if whN l (x, y0 + ((a + b : Nat) : Int)) = 1 then [(x, y0 + ((a + b : Nat) : Int))] else []) := rfl
    have e2 : colR l x (y0 + a) (b + 1) = colR l x (y0 + a) b ++ (if whN l (x, y0 + a + b) = 1 then [(x, y0 + a + b)] else []) := rfl
    rw [e, e2, ih, List.append_assoc, show y0 + ((a + b : Nat) : Int) = y0 + a + b by omega]
theorem colR_nil {l : List (Int × Int)} {x y0 : Int} {m : Nat} (h : ∀ j : Nat, j < m → whN l (x, y0 + j) ≠ 1) : colR l x y0 m = [] := by
  induction m with
  | zero => rfl
  | succ m ih =>
    show colR l x y0 m ++ _ = _
    rw [ih (fun j hj => h j (by omega)), if_neg (h m (by omega))]; rfl
theorem gridR_app (l : List (Int × Int)) (x0 y0 : Int) (r a b : Nat) : gridR l x0 y0 r (a + b) = gridR l x0 y0 r a ++ gridR l (x0 + a) y0 r b := by
  induction b with
  | zero => simp [gridR]
  | succ b ih =>
    have e : gridR l x0 y0 r (a + (b + 1)) = gridR l x0 y0 r (a + b) ++ colR l (x0 + ((a + b : Nat) : Int)) y0 r := rfl
    have e2 : gridR l (x0 + a) y0 r (b + 1) = gridR l (x0 + a) y0 r b ++ colR l (x0 + a + b) y0 r := rfl
    rw [e, e2, ih, List.append_assoc, show x0 + ((a + b : Nat) : Int) = x0 + a + b by omega]
theorem gridR_nil {l : List (Int × Int)} {x0 y0 : Int} {r m : Nat} (h : ∀ i : Nat, i < m → colR l (x0 + i) y0 r = []) : gridR l x0 y0 r m = [] := by
  induction m with
  | zero => rfl
  | succ m ih =>
    show gridR l x0 y0 r m ++ _ = _
    rw [ih (fun i hi => h i (by omega)), h m (by omega)]; rfl
theorem colR_len (l : List (Int × Int)) (x y0 : Int) (m : Nat) : (colR l x y0 m).length ≤ m := by
  induction m with
  | zero => simp [colR]
  | succ m ih =>
    show (colR l x y0 m ++ _).length ≤ _
    rw [List.length_append]
    split <;> simp <;> omega
theorem gridR_len (l : List (Int × Int)) (x0 y0 : Int) (r m : Nat) : (gridR l x0 y0 r m).length ≤ m * r := by
  induction m with
  | zero => simp [gridR]
  | succ m ih =>
    show (gridR l x0 y0 r m ++ _).length ≤ _
    rw [List.length_append, Nat.add_mul]
    have := colR_len l (x0 + m) y0 r
    omega
/-- the points inside, in order -/
noncomputable def insL (l : List (Int × Int)) : List (Int × Int) := gridR l (-40) (-40) 81 81
theorem insL_len (l : List (Int × Int)) : (insL l).length ≤ 6561 := gridR_len l (-40) (-40) 81 81
theorem box_lo (l : List (Int × Int)) : ∀ k i, i < k → (loN l k).1 ≤ (vx l i).1 ∧ (loN l k).2 ≤ (vx l i).2
  | 0, i, h => by omega
  | k + 1, i, h => by
    show min (loN l k).1 (vx l k).1 ≤ _ ∧ min (loN l k).2 (vx l k).2 ≤ _
    by_cases e : i = k
    · subst e; omega
    · have := box_lo l k i (by omega); omega
theorem box_hi (l : List (Int × Int)) : ∀ k i, i < k → (vx l i).1 ≤ (hiN l k).1 ∧ (vx l i).2 ≤ (hiN l k).2
  | 0, i, h => by omega
  | k + 1, i, h => by
    show _ ≤ max (hiN l k).1 (vx l k).1 ∧ _ ≤ max (hiN l k).2 (vx l k).2
    by_cases e : i = k
    · subst e; omega
    · have := box_hi l k i (by omega); omega
theorem box_in {l : List (Int × Int)} (hp : ∀ i, -40 ≤ (vx l i).1 ∧ (vx l i).1 ≤ 40 ∧ -40 ≤ (vx l i).2 ∧ (vx l i).2 ≤ 40) : ∀ k, (-40 ≤ (loN l k).1 ∧ (loN l k).1 ≤ 40 ∧ -40 ≤ (loN l k).2 ∧ (loN l k).2 ≤ 40) ∧ (-40 ≤ (hiN l k).1 ∧ (hiN l k).1 ≤ 40 ∧ -40 ≤ (hiN l k).2 ∧ (hiN l k).2 ≤ 40)
  | 0 => ⟨hp 0, hp 0⟩
  | k + 1 => by
    have ih := box_in hp k
    have h := hp k
    refine ⟨⟨?_, ?_, ?_, ?_⟩, ?_, ?_, ?_, ?_⟩ <;> simp only [loN, hiN] <;> omega
/-- what is inside lies in the corners' box -/
theorem in_box {l : List (Int × Int)} (hg : Good l) {p : Int × Int} (h : whN l p = 1) : (loN l l.length).1 ≤ p.1 ∧ p.1 ≤ (hiN l l.length).1 ∧ (loN l l.length).2 ≤ p.2 ∧ p.2 ≤ (hiN l l.length).2 := by
  have h0 := good_pos hg
  have hb : ¬ MJ.Bd (vx l) p := fun hb => by rw [whN_on hb] at h; omega
  rw [whN_off hb] at h
  have hw : MJ.WN (vx l) l.length p ≠ 0 := by intro e; rw [if_pos e] at h; omega
  have lo : ∀ i, (loN l l.length).1 ≤ (vx l i).1 ∧ (loN l l.length).2 ≤ (vx l i).2 := fun i => by rw [← vx_per]; exact box_lo l _ _ (Nat.mod_lt _ h0)
  have hi : ∀ i, (vx l i).1 ≤ (hiN l l.length).1 ∧ (vx l i).2 ≤ (hiN l l.length).2 := fun i => by rw [← vx_per]; exact box_hi l _ _ (Nat.mod_lt _ h0)
  have z : (∀ j, MJ.cr (vx l j) (vx l (j + 1)) p = 0) → False := fun hz => hw (MJ.sm_zero fun j _ => hz j)
  refine ⟨?_, ?_, ?_, ?_⟩
  · refine Classical.byContradiction fun hn => hw ?_
    rw [← MJ.both_off (good_poly hg) hb]
    refine MJ.sm_zero fun j _ => MJ.cr_west ?_ ?_
    · have := lo j; simp only [MJ.ng]; omega
    · have := lo (j + 1); simp only [MJ.ng]; omega
  · refine Classical.byContradiction fun hn => z fun j => MJ.cr_west ?_ ?_
    · have := hi j; omega
    · have := hi (j + 1); omega
  · refine Classical.byContradiction fun hn => z fun j => ?_
    have h1 := lo j
    have h2 := lo (j + 1)
    unfold MJ.cr
    rw [if_neg (by omega), if_neg (by omega)]
  · refine Classical.byContradiction fun hn => z fun j => ?_
    have h1 := hi j
    have h2 := hi (j + 1)
    unfold MJ.cr
    rw [if_neg (by omega), if_neg (by omega)]
theorem good_40 {l : List (Int × Int)} (hg : Good l) (i : Nat) : -40 ≤ (vx l i).1 ∧ (vx l i).1 ≤ 40 ∧ -40 ≤ (vx l i).2 ∧ (vx l i).2 ≤ 40 := by
  obtain ⟨a, b, c, d⟩ := good_box hg i
  exact ⟨a, b, c, d⟩
/-- columns and rows outside of the box may be left out -/
theorem insL_box {l : List (Int × Int)} (hg : Good l) : insL l = gridR l (loN l l.length).1 (loN l l.length).2 ((hiN l l.length).2 - (loN l l.length).2 + 1).toNat ((hiN l l.length).1 - (loN l l.length).1 + 1).toNat := by
  have hb := box_in (good_40 hg) l.length
  have hbx := fun p (h : whN l p = 1) => in_box hg h
  have hle : (loN l l.length).1 ≤ (hiN l l.length).1 ∧ (loN l l.length).2 ≤ (hiN l l.length).2 := by
    have a := box_lo l l.length 0 (good_pos hg)
    have b := box_hi l l.length 0 (good_pos hg)
    omega
  generalize loN l l.length = lo at *
  generalize hiN l l.length = hi at *
  have col : ∀ x, colR l x (-40) 81 = colR l x lo.2 (hi.2 - lo.2 + 1).toNat := by
    intro x
    have e : 81 = (lo.2 + 40).toNat + ((hi.2 - lo.2 + 1).toNat + (40 - hi.2).toNat) := by omega
    rw [e, colR_app, colR_app]
    rw [colR_nil (m := (lo.2 + 40).toNat) (fun j hj h => by have := hbx _ h; simp only [] at this; omega)]
    rw [colR_nil (m := (40 - hi.2).toNat) (fun j hj h => by have := hbx _ h; simp only [] at this; omega)]
    rw [List.nil_append, List.append_nil, show -40 + (((lo.2 + 40).toNat : Nat) : Int) = lo.2 by omega]
  have grid : ∀ (x0 : Int) (m : Nat), gridR l x0 (-40) 81 m = gridR l x0 lo.2 (hi.2 - lo.2 + 1).toNat m := by
    intro x0 m
    induction m with
    | zero => rfl
    | succ m ih =>
      show gridR l x0 (-40) 81 m ++ _ = gridR l x0 lo.2 _ m ++ _
      rw [ih, col]
  unfold insL
  have e : 81 = (lo.1 + 40).toNat + ((hi.1 - lo.1 + 1).toNat + (40 - hi.1).toNat) := by omega
  have ne : ∀ (x : Int), (x < lo.1 ∨ hi.1 < x) → colR l x lo.2 (hi.2 - lo.2 + 1).toNat = [] := fun x hx => colR_nil fun j hj h => by have := hbx _ h; simp only [] at this; omega
  rw [grid]
  have : gridR l (-40) lo.2 (hi.2 - lo.2 + 1).toNat 81 = gridR l (-40) lo.2 (hi.2 - lo.2 + 1).toNat ((lo.1 + 40).toNat + ((hi.1 - lo.1 + 1).toNat + (40 - hi.1).toNat)) := by rw [← e]
  rw [this, gridR_app, gridR_app]
  rw [gridR_nil (m := (lo.1 + 40).toNat) (fun i hi' => ne _ (by omega))]
  rw [gridR_nil (m := (40 - hi.1).toNat) (fun i hi' => ne _ (by omega))]
  rw [List.nil_append, List.append_nil, show -40 + (((lo.1 + 40).toNat : Nat) : Int) = lo.1 by omega]
/-- PICK: the told number is none less than 0 -/
theorem st_is (a b : Int × Int) : (MJ.St a b : Int) = stepN a.1 a.2 b.1 b.2 := by
  unfold MJ.St stepN Int.gcd
  rw [show (b.1 - a.1).natAbs = (a.1 - b.1).natAbs by omega, show (b.2 - a.2).natAbs = (a.2 - b.2).natAbs by omega]
theorem on_sum (l : List (Int × Int)) : onN l = MJ.sm (fun k => (MJ.St (vx l k) (vx l (k + 1)) : Int)) l.length := by
  unfold onN Rn
  rw [sumTo_is]
  exact MJ.sm_congr fun k _ => (st_is _ _).symm
theorem ins_pos {l : List (Int × Int)} (hg : Good l) : 0 ≤ insN l ∧ insN l ≤ 100000 := by
  have p := MJ.pick_le (good_poly hg) (good_box hg)
  rw [← area_is, ← on_sum] at p
  have r := rn_bd hg.pegs (good_pos hg) l.length
  have a := sh_bd hg.pegs (good_pos hg) l.length
  have h10 := hg.few.2
  change -(160 * (l.length : Int)) ≤ onN l ∧ onN l ≤ _ at r
  change -(3200 * (l.length : Int)) ≤ areaN l ∧ areaN l ≤ _ at a
  unfold insN
  have e : ∀ x : Int, 0 ≤ x → x.tdiv 2 = x / 2 := fun x hx => Int.tdiv_eq_ediv_of_nonneg hx
  have hn : 0 ≤ ((areaN l).natAbs : Int) + 2 - onN l := by omega
  rw [e _ hn]
  omega
/-- a row of the call's own that has grown to a list -/
def RowL (w : World) (base : Nat) (v : Value) (m : List (Int × Int)) : Prop := w.ownsRow base 34 2 v m.length (flat m)
theorem rowL_nil (w : World) (base : Nat) : RowL w base (.slice none 0 0) [] := World.ownsRow_nil w base _ _
theorem rowL_alloc {w : World} {base : Nat} {v : Value} {m : List (Int × Int)} (h : RowL w base v m) (o : Obj) : RowL (w.alloc o) base v m := World.ownsRow.alloc h o
theorem rowL_below {w w' : World} {base B : Nat} {v : Value} {m : List (Int × Int)} (h : RowL w base v m) (hb : Below B w w') (hB : w.heap.size ≤ B) : RowL w' base v m := by
  obtain ⟨h1, h2⟩ := h
  rcases h2 with h2 | ⟨g, cap, cur, hv, hg, hh, r⟩
  · exact ⟨h1, .inl h2⟩
  · have hl := World.ownsRow.lt (w := w) (base := base) (e := 34) (size := 2) (v := v) (n := m.length) (xs := flat m) ⟨h1, .inr ⟨g, cap, cur, hv, hg, hh, r⟩⟩ g (by rw [hv]; rfl)
    exact ⟨h1, .inr ⟨g, cap, cur, hv, hg, (hb.block g (by omega)).trans hh, r⟩⟩
theorem rowL_push {w W w1 : World} {v v' : Value} {m : List (Int × Int)} {x y : Int} (hB : Below w.heap.size w W) (hr : RowL W w.heap.size v m)
    (ho : w1.ownsRow w.heap.size 34 2 v' (m.length + 1) (flat m ++ [.int .i64 x, .int .i64 y])) (hg : W.grownBy w1 v.ownBlock) : RowL w1 w.heap.size v' (m ++ [(x, y)]) ∧ Below w.heap.size w w1 :=
  ⟨by unfold RowL; rw [flat_snoc, List.length_append]; exact ho, hB.grown hg hB.size fun g hgk => (World.ownsRow.lt hr g hgk).1⟩
theorem retP_rowL {w w' : World} {v : Value} {m : List (Int × Int)} (h : RowL w' w.heap.size v m) (hb : Below w.heap.size w w') : RetP w m (.returned v) w' := by
  obtain ⟨A, c, rfl, h1, h2, h3⟩ := rw_of_own h
  exact ⟨A, c, rfl, h1, h2, hb, h3⟩
theorem colR_no {l : List (Int × Int)} {x y0 : Int} {m : Nat} (h : whN l (x, y0 + m) ≠ 1) : colR l x y0 (m + 1) = colR l x y0 m := by
  show colR l x y0 m ++ _ = _
  rw [if_neg h, List.append_nil]
theorem colR_yes {l : List (Int × Int)} {x y0 : Int} {m : Nat} (h : whN l (x, y0 + m) = 1) : colR l x y0 (m + 1) = colR l x y0 m ++ [(x, y0 + m)] := by
  show colR l x y0 m ++ _ = _
  rw [if_pos h]
theorem whN_3 (l : List (Int × Int)) (p : Int × Int) : whN l p = 0 ∨ whN l p = 1 ∨ whN l p = -1 := by
  by_cases h : MJ.Bd (vx l) p
  · exact .inl (whN_on h)
  · rw [whN_off h]; split <;> simp
end Go.Proofs.Ytjkfdcjfoliboaa
/- contract: the model's list told backwards -/
namespace Go.Proofs.Ytjkfdcjfoliboaa
open Go.ChangeShapes Go.WideShapes Go.ChangeAt Go.RowKit Go.Joins
set_option linter.unusedVariables false
set_option linter.unusedSimpArgs false
set_option maxRecDepth 4000
/-- corner number n - i: told backwards from the same corner -/
def backF (l : List (Int × Int)) (i : Nat) : Int × Int := vx l (l.length - i)
set_option maxHeartbeats 2000000 in
theorem pgBack_any (A : Option Addr) (c : Nat) (l : List (Int × Int)) (w : World) (h3 : 1 ≤ l.length) (hn : l.length ≤ 10) (hR : Rd w w.heap.size A l) :
    Calls Try.prog 50 #[.slice A l.length c] w (RetP w (firsts (backF l) l.length)) := by
  obtain ⟨b, off, rfl, hb, HC⟩ := pts_of (by omega) hR
  obtain ⟨i0, hi0, hz0, hz1, hz2⟩ := info_parts peg_info
  have HI := Lib.hid (And.intro hi0 (And.intro hz0 (And.intro hz1 hz2)))
  clear hi0 hz0 hz1 hz2 hR
  have h0 := HC.out w (Below.refl _ _) 0 (by omega)
  simp only [Nat.zero_mul, Nat.add_zero] at h0
  have hB0 : Hid (backF l 0 = vx l 0) := Lib.hid (by unfold backF; rw [Nat.sub_zero, ← vx_per, Nat.mod_self])
  have hBk : Hid (∀ k, backF l k = vx l (l.length - k)) := Lib.hid (fun _ => rfl)
  generalize hN : l.length = n at *
  have HN := Lib.hid hN
  clear hN
  have hr0 : Hid (Row (w.alloc (.cells #[.int .i64 (vx l 0).1, .int .i64 (vx l 0).2] 34)) w.heap.size (.slice (some ⟨w.heap.size, 0, none⟩) 1 1) (backF l) 1) := Lib.hid (by
    have := World.ownsRow_lit (base := w.heap.size) (e := 34) (size := 2) w #[.int .i64 (vx l 0).1, .int .i64 (vx l 0).2] 1 (Nat.le_refl _) (by simp [maxLen]) rfl
    unfold Row
    rw [firsts_succ, flat_snoc, hB0.out]
    exact this)
  have b0 := Below.alloc (Below.refl w.heap.size w) (Nat.le_refl _) (.cells #[.int .i64 (vx l 0).1, .int .i64 (vx l 0).2] 34)
  have hn0 : 0 < n := by omega
  go_enter Try.func50, Try.ntmps50
  go_wp2_with fail
  clear h0
  go_loopg [3, 4] n (fun g s i wr => ∃ (k : Nat) (v : Value), s = v ∧ 1 ≤ k ∧ k ≤ n ∧ g = n + 1 - k ∧ i = .int .i64 ((n : Int) - (k : Int)) ∧ Below w.heap.size w wr ∧ Hid (Row wr w.heap.size v (backF l) k))
  case atStart => exact ⟨1, _, rfl, Nat.le_refl _, by omega, by omega, by simp, b0, hr0⟩
  case round =>
    clear b0 hr0
    obtain ⟨k, v, rfl, hk1, hk, hg, rfl, hB, hr⟩ := hrel
    rename World => wo
    have HGK := Lib.hid hg
    clear hg
    by_cases hlt : k < n
    · have hq := HC.out wo hB (n - k) (by omega)
      have e2 : ((n : Int) - (k : Int)).toNat = n - k := by omega
      have e3 : (0 : Int) < (n : Int) - (k : Int) := by omega
      have e4 : (0 : Int) ≤ (n : Int) - (k : Int) := by omega
      have e5 : (n : Int) - (k : Int) < (n : Int) := by omega
      have hzB := hB.size
      have RA := Lib.hid (row_alloc hr.out (.cells #[.int .i64 (vx l (n - k)).1, .int .i64 (vx l (n - k)).2] 34))
      have BA := Lib.hid (Below.alloc hB hzB (.cells #[.int .i64 (vx l (n - k)).1, .int .i64 (vx l (n - k)).2] 34))
      clear hr
      go_wp2_with (at_builtin; refine wpList_append_own _ rfl (.tmp 16) (.tmp 21) 26 rfl w.heap.size 34 i0 (.agg #[.int .i64 0, .int .i64 0]) 2 16 Try.underlying26 HI.out.1 HI.out.2.1 HI.out.2.2.1 HI.out.2.2.2 rfl (by decide) _ k (flat (firsts (backF l) k)) rfl RA.out ⟨wo.heap.size, 0, none⟩ 1 1 [.int .i64 (vx l (n - k)).1, .int .i64 (vx l (n - k)).2] rfl rfl (two_cells (by go_simp) (by go_simp)) (two_one _ _) (by unfold maxLen; omega) (by omega) (by simp; omega) ?_)
      intro v' w1 hown hgr _
      rw [← hBk.out k] at hown
      have RB := row_push BA.out RA.out hown hgr
      have R1 := Lib.hid RB.1
      have B1 := RB.2
      clear RB hown hgr hq e2 e3 e4 e5
      go_wp2_with fail
      go_roundg (n + 1 - (k + 1))
      case measure => have := HGK.out; omega
      case rel => exact ⟨k + 1, _, rfl, by omega, by omega, rfl, by go_num, B1, R1⟩
    · have hkn : n = k := by omega
      subst hkn
      go_wp2_with fail
      go_ret
      exact retP_row hr.out hB
end Go.Proofs.Ytjkfdcjfoliboaa
/- contracts: do two lines cross, do two lines meet, the program -/
namespace Go.Proofs.Ytjkfdcjfoliboaa
open Go.ChangeShapes Go.WideShapes Go.ChangeAt Go.RowKit Go.Joins
set_option linter.unusedVariables false
set_option linter.unusedSimpArgs false
set_option maxRecDepth 4000
theorem linesCross_any (a1 a2 b1 b2 c1 c2 d1 d2 : Int) (w : World) (pa : isPegB a1 a2 = true) (pb : isPegB b1 b2 = true) (pc : isPegB c1 c2 = true) (pd : isPegB d1 d2 = true) :
    Calls Try.prog 91 #[.agg #[.int .i64 a1, .int .i64 a2], .agg #[.int .i64 b1, .int .i64 b2], .agg #[.int .i64 c1, .int .i64 c2], .agg #[.int .i64 d1, .int .i64 d2]] w fun e w' => e = .returned (.bool (decide (twI a1 a2 b1 b2 c1 c2 * twI a1 a2 b1 b2 d1 d2 < 0) && decide (twI c1 c2 d1 d2 a1 a2 * twI c1 c2 d1 d2 b1 b2 < 0))) ∧ Below w.heap.size w w' := by
  have ha := sz_of pa
  have hb := sz_of pb
  have hc := sz_of pc
  have hd := sz_of pd
  have T1 := Lib.hid (fun W => twiceThree_any a1 a2 b1 b2 c1 c2 W ha hb hc)
  have T2 := Lib.hid (fun W => twiceThree_any a1 a2 b1 b2 d1 d2 W ha hb hd)
  have T3 := Lib.hid (fun W => twiceThree_any c1 c2 d1 d2 a1 a2 W hc hd ha)
  have T4 := Lib.hid (fun W => twiceThree_any c1 c2 d1 d2 b1 b2 W hc hd hb)
  have q1 := tw_bd40 pa pb pc
  have q2 := tw_bd40 pa pb pd
  have q3 := tw_bd40 pc pd pa
  have q4 := tw_bd40 pc pd pb
  clear ha hb hc hd pa pb pc pd
  generalize twI a1 a2 b1 b2 c1 c2 = t1 at *
  generalize twI a1 a2 b1 b2 d1 d2 = t2 at *
  generalize twI c1 c2 d1 d2 a1 a2 = t3 at *
  generalize twI c1 c2 d1 d2 b1 b2 = t4 at *
  have r1 := mul_bd (m := 12800) (n := 12800) q1.1 q1.2 q2.1 q2.2
  have r2 := mul_bd (m := 12800) (n := 12800) q3.1 q3.2 q4.1 q4.2
  obtain ⟨p1, p2⟩ := r1
  obtain ⟨p3, p4⟩ := r2
  have e1 : IntKind.i64.wrap (t1 * t2) = t1 * t2 := IntWalk.i64_in _ (by omega)
  have e2 : IntKind.i64.wrap (t3 * t4) = t3 * t4 := IntWalk.i64_in _ (by omega)
  go_enter Try.func91, Try.ntmps91
  go_wp2_with fail
  by_cases hm : t1 * t2 < 0
  · have hd := decide_eq_true hm
    refine wp_region_B (fun W => Below w.heap.size w W ∧ w.heap.size + 3 < W.heap.size ∧ W.cell? ⟨w.heap.size, 0, none⟩ = some (.int .i64 a1) ∧ W.cell? ⟨w.heap.size, 1, none⟩ = some (.int .i64 a2) ∧ W.cell? ⟨w.heap.size + 1, 0, none⟩ = some (.int .i64 b1) ∧ W.cell? ⟨w.heap.size + 1, 1, none⟩ = some (.int .i64 b2) ∧ W.cell? ⟨w.heap.size + 2, 0, none⟩ = some (.int .i64 c1) ∧ W.cell? ⟨w.heap.size + 2, 1, none⟩ = some (.int .i64 c2) ∧ W.cell? ⟨w.heap.size + 3, 0, none⟩ = some (.int .i64 d1) ∧ W.cell? ⟨w.heap.size + 3, 1, none⟩ = some (.int .i64 d2)) (by kernel_rfl) (held4 (box4 w _ a1 a2 b1 b2 c1 c2 d1 d2) ((Below.refl _ _).drew)) ?_
    first | refine wpB_skip 0 rfl (by kernel_rfl) (by kernel_rfl) (by kernel_rfl) (by rfl) ?_ | (refine wpB_text 0 (v := ?_) rfl (by kernel_rfl) (by kernel_rfl) (by kernel_rfl) (by rfl) (fun W hW => ?_) ?_; rotate_left; (obtain ⟨k1, k2, k3, k4, k5, k6, k7, k8, k9, k10⟩ := hW;  go_simp; refine comes_v ?_; exact ⟨k1, k2, k3, k4, k5, k6, k7, k8, k9, k10⟩))
    (try simp only [Act.put, List.setIfInBounds_toArray, List.set_cons_zero, List.set_cons_succ])
    first | refine wpB_skip 1 rfl (by kernel_rfl) (by kernel_rfl) (by kernel_rfl) (by rfl) ?_ | (refine wpB_text 1 (v := ?_) rfl (by kernel_rfl) (by kernel_rfl) (by kernel_rfl) (by rfl) (fun W hW => ?_) ?_; rotate_left; (obtain ⟨k1, k2, k3, k4, k5, k6, k7, k8, k9, k10⟩ := hW;  go_simp; refine comes_v ?_; exact ⟨k1, k2, k3, k4, k5, k6, k7, k8, k9, k10⟩))
    (try simp only [Act.put, List.setIfInBounds_toArray, List.set_cons_zero, List.set_cons_succ])
    first | refine wpB_skip 2 rfl (by kernel_rfl) (by kernel_rfl) (by kernel_rfl) (by rfl) ?_ | (refine wpB_text 2 (v := ?_) rfl (by kernel_rfl) (by kernel_rfl) (by kernel_rfl) (by rfl) (fun W hW => ?_) ?_; rotate_left; (obtain ⟨k1, k2, k3, k4, k5, k6, k7, k8, k9, k10⟩ := hW;  go_simp; refine comes_v ?_; exact ⟨k1, k2, k3, k4, k5, k6, k7, k8, k9, k10⟩))
    (try simp only [Act.put, List.setIfInBounds_toArray, List.set_cons_zero, List.set_cons_succ])
    first | refine wpB_skip 3 rfl (by kernel_rfl) (by kernel_rfl) (by kernel_rfl) (by rfl) ?_ | (refine wpB_text 3 (v := .int .i64 t1) rfl (by kernel_rfl) (by kernel_rfl) (by kernel_rfl) (by rfl) (fun W hW => ?_) ?_; (obtain ⟨k1, k2, k3, k4, k5, k6, k7, k8, k9, k10⟩ := hW;  go_simp; exact comes_c ( T1.out _) (fun wn hbn => held4 ⟨k1, k2, k3, k4, k5, k6, k7, k8, k9, k10⟩ hbn)))
    (try simp only [Act.put, List.setIfInBounds_toArray, List.set_cons_zero, List.set_cons_succ])
    first | refine wpB_skip 4 rfl (by kernel_rfl) (by kernel_rfl) (by kernel_rfl) (by rfl) ?_ | (refine wpB_text 4 (v := ?_) rfl (by kernel_rfl) (by kernel_rfl) (by kernel_rfl) (by rfl) (fun W hW => ?_) ?_; rotate_left; (obtain ⟨k1, k2, k3, k4, k5, k6, k7, k8, k9, k10⟩ := hW;  go_simp; refine comes_v ?_; exact ⟨k1, k2, k3, k4, k5, k6, k7, k8, k9, k10⟩))
    (try simp only [Act.put, List.setIfInBounds_toArray, List.set_cons_zero, List.set_cons_succ])
    first | refine wpB_skip 5 rfl (by kernel_rfl) (by kernel_rfl) (by kernel_rfl) (by rfl) ?_ | (refine wpB_text 5 (v := ?_) rfl (by kernel_rfl) (by kernel_rfl) (by kernel_rfl) (by rfl) (fun W hW => ?_) ?_; rotate_left; (obtain ⟨k1, k2, k3, k4, k5, k6, k7, k8, k9, k10⟩ := hW;  go_simp; refine comes_v ?_; exact ⟨k1, k2, k3, k4, k5, k6, k7, k8, k9, k10⟩))
    (try simp only [Act.put, List.setIfInBounds_toArray, List.set_cons_zero, List.set_cons_succ])
    first | refine wpB_skip 6 rfl (by kernel_rfl) (by kernel_rfl) (by kernel_rfl) (by rfl) ?_ | (refine wpB_text 6 (v := ?_) rfl (by kernel_rfl) (by kernel_rfl) (by kernel_rfl) (by rfl) (fun W hW => ?_) ?_; rotate_left; (obtain ⟨k1, k2, k3, k4, k5, k6, k7, k8, k9, k10⟩ := hW;  go_simp; refine comes_v ?_; exact ⟨k1, k2, k3, k4, k5, k6, k7, k8, k9, k10⟩))
    (try simp only [Act.put, List.setIfInBounds_toArray, List.set_cons_zero, List.set_cons_succ])
    first | refine wpB_skip 7 rfl (by kernel_rfl) (by kernel_rfl) (by kernel_rfl) (by rfl) ?_ | (refine wpB_text 7 (v := .int .i64 t2) rfl (by kernel_rfl) (by kernel_rfl) (by kernel_rfl) (by rfl) (fun W hW => ?_) ?_; (obtain ⟨k1, k2, k3, k4, k5, k6, k7, k8, k9, k10⟩ := hW;  go_simp; exact comes_c ( T2.out _) (fun wn hbn => held4 ⟨k1, k2, k3, k4, k5, k6, k7, k8, k9, k10⟩ hbn)))
    (try simp only [Act.put, List.setIfInBounds_toArray, List.set_cons_zero, List.set_cons_succ])
    first | refine wpB_skip 8 rfl (by kernel_rfl) (by kernel_rfl) (by kernel_rfl) (by rfl) ?_ | (refine wpB_text 8 (v := ?_) rfl (by kernel_rfl) (by kernel_rfl) (by kernel_rfl) (by rfl) (fun W hW => ?_) ?_; rotate_left; (obtain ⟨k1, k2, k3, k4, k5, k6, k7, k8, k9, k10⟩ := hW;  go_simp; refine comes_v ?_; exact ⟨k1, k2, k3, k4, k5, k6, k7, k8, k9, k10⟩))
    (try simp only [Act.put, List.setIfInBounds_toArray, List.set_cons_zero, List.set_cons_succ])
    first | refine wpB_skip 9 rfl (by kernel_rfl) (by kernel_rfl) (by kernel_rfl) (by rfl) ?_ | (refine wpB_text 9 (v := ?_) rfl (by kernel_rfl) (by kernel_rfl) (by kernel_rfl) (by rfl) (fun W hW => ?_) ?_; rotate_left; (obtain ⟨k1, k2, k3, k4, k5, k6, k7, k8, k9, k10⟩ := hW;  go_simp; refine comes_v ?_; exact ⟨k1, k2, k3, k4, k5, k6, k7, k8, k9, k10⟩))
    (try simp only [Act.put, List.setIfInBounds_toArray, List.set_cons_zero, List.set_cons_succ])
    first | refine wpB_skip 10 rfl (by kernel_rfl) (by kernel_rfl) (by kernel_rfl) (by rfl) ?_ | (refine wpB_text 10 (v := ?_) rfl (by kernel_rfl) (by kernel_rfl) (by kernel_rfl) (by rfl) (fun W hW => ?_) ?_; rotate_left; (obtain ⟨k1, k2, k3, k4, k5, k6, k7, k8, k9, k10⟩ := hW;  go_simp; refine comes_v ?_; exact ⟨k1, k2, k3, k4, k5, k6, k7, k8, k9, k10⟩))
    (try simp only [Act.put, List.setIfInBounds_toArray, List.set_cons_zero, List.set_cons_succ])
    first | refine wpB_skip 11 rfl (by kernel_rfl) (by kernel_rfl) (by kernel_rfl) (by rfl) ?_ | (refine wpB_text 11 (v := ?_) rfl (by kernel_rfl) (by kernel_rfl) (by kernel_rfl) (by rfl) (fun W hW => ?_) ?_; rotate_left; (obtain ⟨k1, k2, k3, k4, k5, k6, k7, k8, k9, k10⟩ := hW;  go_simp; refine comes_v ?_; exact ⟨k1, k2, k3, k4, k5, k6, k7, k8, k9, k10⟩))
    (try simp only [Act.put, List.setIfInBounds_toArray, List.set_cons_zero, List.set_cons_succ])
    first | refine wpB_skip 12 rfl (by kernel_rfl) (by kernel_rfl) (by kernel_rfl) (by rfl) ?_ | (refine wpB_text 12 (v := ?_) rfl (by kernel_rfl) (by kernel_rfl) (by kernel_rfl) (by rfl) (fun W hW => ?_) ?_; rotate_left; (obtain ⟨k1, k2, k3, k4, k5, k6, k7, k8, k9, k10⟩ := hW;  go_simp; refine comes_v ?_; exact ⟨k1, k2, k3, k4, k5, k6, k7, k8, k9, k10⟩))
    (try simp only [Act.put, List.setIfInBounds_toArray, List.set_cons_zero, List.set_cons_succ])
    first | refine wpB_skip 13 rfl (by kernel_rfl) (by kernel_rfl) (by kernel_rfl) (by rfl) ?_ | (refine wpB_text 13 (v := ?_) rfl (by kernel_rfl) (by kernel_rfl) (by kernel_rfl) (by rfl) (fun W hW => ?_) ?_; rotate_left; (obtain ⟨k1, k2, k3, k4, k5, k6, k7, k8, k9, k10⟩ := hW;  go_simp; refine comes_v ?_; exact ⟨k1, k2, k3, k4, k5, k6, k7, k8, k9, k10⟩))
    (try simp only [Act.put, List.setIfInBounds_toArray, List.set_cons_zero, List.set_cons_succ])
    first | refine wpB_skip 14 rfl (by kernel_rfl) (by kernel_rfl) (by kernel_rfl) (by rfl) ?_ | (refine wpB_text 14 (v := .int .i64 t3) rfl (by kernel_rfl) (by kernel_rfl) (by kernel_rfl) (by rfl) (fun W hW => ?_) ?_; (obtain ⟨k1, k2, k3, k4, k5, k6, k7, k8, k9, k10⟩ := hW;  go_simp; exact comes_c ( T3.out _) (fun wn hbn => held4 ⟨k1, k2, k3, k4, k5, k6, k7, k8, k9, k10⟩ hbn)))
    (try simp only [Act.put, List.setIfInBounds_toArray, List.set_cons_zero, List.set_cons_succ])
    first | refine wpB_skip 15 rfl (by kernel_rfl) (by kernel_rfl) (by kernel_rfl) (by rfl) ?_ | (refine wpB_text 15 (v := ?_) rfl (by kernel_rfl) (by kernel_rfl) (by kernel_rfl) (by rfl) (fun W hW => ?_) ?_; rotate_left; (obtain ⟨k1, k2, k3, k4, k5, k6, k7, k8, k9, k10⟩ := hW;  go_simp; refine comes_v ?_; exact ⟨k1, k2, k3, k4, k5, k6, k7, k8, k9, k10⟩))
    (try simp only [Act.put, List.setIfInBounds_toArray, List.set_cons_zero, List.set_cons_succ])
    first | refine wpB_skip 16 rfl (by kernel_rfl) (by kernel_rfl) (by kernel_rfl) (by rfl) ?_ | (refine wpB_text 16 (v := ?_) rfl (by kernel_rfl) (by kernel_rfl) (by kernel_rfl) (by rfl) (fun W hW => ?_) ?_; rotate_left; (obtain ⟨k1, k2, k3, k4, k5, k6, k7, k8, k9, k10⟩ := hW;  go_simp; refine comes_v ?_; exact ⟨k1, k2, k3, k4, k5, k6, k7, k8, k9, k10⟩))
    (try simp only [Act.put, List.setIfInBounds_toArray, List.set_cons_zero, List.set_cons_succ])
    first | refine wpB_skip 17 rfl (by kernel_rfl) (by kernel_rfl) (by kernel_rfl) (by rfl) ?_ | (refine wpB_text 17 (v := ?_) rfl (by kernel_rfl) (by kernel_rfl) (by kernel_rfl) (by rfl) (fun W hW => ?_) ?_; rotate_left; (obtain ⟨k1, k2, k3, k4, k5, k6, k7, k8, k9, k10⟩ := hW;  go_simp; refine comes_v ?_; exact ⟨k1, k2, k3, k4, k5, k6, k7, k8, k9, k10⟩))
    (try simp only [Act.put, List.setIfInBounds_toArray, List.set_cons_zero, List.set_cons_succ])
    first | refine wpB_skip 18 rfl (by kernel_rfl) (by kernel_rfl) (by kernel_rfl) (by rfl) ?_ | (refine wpB_text 18 (v := .int .i64 t4) rfl (by kernel_rfl) (by kernel_rfl) (by kernel_rfl) (by rfl) (fun W hW => ?_) ?_; (obtain ⟨k1, k2, k3, k4, k5, k6, k7, k8, k9, k10⟩ := hW;  go_simp; exact comes_c ( T4.out _) (fun wn hbn => held4 ⟨k1, k2, k3, k4, k5, k6, k7, k8, k9, k10⟩ hbn)))
    (try simp only [Act.put, List.setIfInBounds_toArray, List.set_cons_zero, List.set_cons_succ])
    first | refine wpB_skip 19 rfl (by kernel_rfl) (by kernel_rfl) (by kernel_rfl) (by rfl) ?_ | (refine wpB_text 19 (v := ?_) rfl (by kernel_rfl) (by kernel_rfl) (by kernel_rfl) (by rfl) (fun W hW => ?_) ?_; rotate_left; (obtain ⟨k1, k2, k3, k4, k5, k6, k7, k8, k9, k10⟩ := hW;  go_simp; refine comes_v ?_; exact ⟨k1, k2, k3, k4, k5, k6, k7, k8, k9, k10⟩))
    (try simp only [Act.put, List.setIfInBounds_toArray, List.set_cons_zero, List.set_cons_succ])
    first | refine wpB_skip 20 rfl (by kernel_rfl) (by kernel_rfl) (by kernel_rfl) (by rfl) ?_ | (refine wpB_text 20 (v := ?_) rfl (by kernel_rfl) (by kernel_rfl) (by kernel_rfl) (by rfl) (fun W hW => ?_) ?_; rotate_left; (obtain ⟨k1, k2, k3, k4, k5, k6, k7, k8, k9, k10⟩ := hW;  go_simp; refine comes_v ?_; exact ⟨k1, k2, k3, k4, k5, k6, k7, k8, k9, k10⟩))
    (try simp only [Act.put, List.setIfInBounds_toArray, List.set_cons_zero, List.set_cons_succ])
    first | refine wpB_skip 21 rfl (by kernel_rfl) (by kernel_rfl) (by kernel_rfl) (by rfl) ?_ | (refine wpB_text 21 (v := ?_) rfl (by kernel_rfl) (by kernel_rfl) (by kernel_rfl) (by rfl) (fun W hW => ?_) ?_; rotate_left; (obtain ⟨k1, k2, k3, k4, k5, k6, k7, k8, k9, k10⟩ := hW;  go_simp; refine comes_v ?_; exact ⟨k1, k2, k3, k4, k5, k6, k7, k8, k9, k10⟩))
    (try simp only [Act.put, List.setIfInBounds_toArray, List.set_cons_zero, List.set_cons_succ])
    first | refine wpB_skip 22 rfl (by kernel_rfl) (by kernel_rfl) (by kernel_rfl) (by rfl) ?_ | (refine wpB_text 22 (v := ?_) rfl (by kernel_rfl) (by kernel_rfl) (by kernel_rfl) (by rfl) (fun W hW => ?_) ?_; rotate_left; (obtain ⟨k1, k2, k3, k4, k5, k6, k7, k8, k9, k10⟩ := hW;  go_simp; refine comes_v ?_; exact ⟨k1, k2, k3, k4, k5, k6, k7, k8, k9, k10⟩))
    (try simp only [Act.put, List.setIfInBounds_toArray, List.set_cons_zero, List.set_cons_succ])
    refine wpB_done (by kernel_rfl) ?_ _
    intro W hW; obtain ⟨k1, k2, k3, k4, k5, k6, k7, k8, k9, k10⟩ := hW
    clear e1 e2
    go_wp2_with fail
    go_ret
    exact ⟨ret_bool (by simp [hm]), k1⟩
  · have hd := decide_eq_false hm
    refine wp_region_B (fun W => Below w.heap.size w W ∧ w.heap.size + 3 < W.heap.size ∧ W.cell? ⟨w.heap.size, 0, none⟩ = some (.int .i64 a1) ∧ W.cell? ⟨w.heap.size, 1, none⟩ = some (.int .i64 a2) ∧ W.cell? ⟨w.heap.size + 1, 0, none⟩ = some (.int .i64 b1) ∧ W.cell? ⟨w.heap.size + 1, 1, none⟩ = some (.int .i64 b2) ∧ W.cell? ⟨w.heap.size + 2, 0, none⟩ = some (.int .i64 c1) ∧ W.cell? ⟨w.heap.size + 2, 1, none⟩ = some (.int .i64 c2) ∧ W.cell? ⟨w.heap.size + 3, 0, none⟩ = some (.int .i64 d1) ∧ W.cell? ⟨w.heap.size + 3, 1, none⟩ = some (.int .i64 d2)) (by kernel_rfl) (held4 (box4 w _ a1 a2 b1 b2 c1 c2 d1 d2) ((Below.refl _ _).drew)) ?_
    first | refine wpB_skip 0 rfl (by kernel_rfl) (by kernel_rfl) (by kernel_rfl) (by rfl) ?_ | (refine wpB_text 0 (v := ?_) rfl (by kernel_rfl) (by kernel_rfl) (by kernel_rfl) (by rfl) (fun W hW => ?_) ?_; rotate_left; (obtain ⟨k1, k2, k3, k4, k5, k6, k7, k8, k9, k10⟩ := hW;  go_simp; refine comes_v ?_; exact ⟨k1, k2, k3, k4, k5, k6, k7, k8, k9, k10⟩))
    (try simp only [Act.put, List.setIfInBounds_toArray, List.set_cons_zero, List.set_cons_succ])
    first | refine wpB_skip 1 rfl (by kernel_rfl) (by kernel_rfl) (by kernel_rfl) (by rfl) ?_ | (refine wpB_text 1 (v := ?_) rfl (by kernel_rfl) (by kernel_rfl) (by kernel_rfl) (by rfl) (fun W hW => ?_) ?_; rotate_left; (obtain ⟨k1, k2, k3, k4, k5, k6, k7, k8, k9, k10⟩ := hW;  go_simp; refine comes_v ?_; exact ⟨k1, k2, k3, k4, k5, k6, k7, k8, k9, k10⟩))
    (try simp only [Act.put, List.setIfInBounds_toArray, List.set_cons_zero, List.set_cons_succ])
    first | refine wpB_skip 2 rfl (by kernel_rfl) (by kernel_rfl) (by kernel_rfl) (by rfl) ?_ | (refine wpB_text 2 (v := ?_) rfl (by kernel_rfl) (by kernel_rfl) (by kernel_rfl) (by rfl) (fun W hW => ?_) ?_; rotate_left; (obtain ⟨k1, k2, k3, k4, k5, k6, k7, k8, k9, k10⟩ := hW;  go_simp; refine comes_v ?_; exact ⟨k1, k2, k3, k4, k5, k6, k7, k8, k9, k10⟩))
    (try simp only [Act.put, List.setIfInBounds_toArray, List.set_cons_zero, List.set_cons_succ])
    first | refine wpB_skip 3 rfl (by kernel_rfl) (by kernel_rfl) (by kernel_rfl) (by rfl) ?_ | (refine wpB_text 3 (v := .int .i64 t1) rfl (by kernel_rfl) (by kernel_rfl) (by kernel_rfl) (by rfl) (fun W hW => ?_) ?_; (obtain ⟨k1, k2, k3, k4, k5, k6, k7, k8, k9, k10⟩ := hW;  go_simp; exact comes_c ( T1.out _) (fun wn hbn => held4 ⟨k1, k2, k3, k4, k5, k6, k7, k8, k9, k10⟩ hbn)))
    (try simp only [Act.put, List.setIfInBounds_toArray, List.set_cons_zero, List.set_cons_succ])
    first | refine wpB_skip 4 rfl (by kernel_rfl) (by kernel_rfl) (by kernel_rfl) (by rfl) ?_ | (refine wpB_text 4 (v := ?_) rfl (by kernel_rfl) (by kernel_rfl) (by kernel_rfl) (by rfl) (fun W hW => ?_) ?_; rotate_left; (obtain ⟨k1, k2, k3, k4, k5, k6, k7, k8, k9, k10⟩ := hW;  go_simp; refine comes_v ?_; exact ⟨k1, k2, k3, k4, k5, k6, k7, k8, k9, k10⟩))
    (try simp only [Act.put, List.setIfInBounds_toArray, List.set_cons_zero, List.set_cons_succ])
    first | refine wpB_skip 5 rfl (by kernel_rfl) (by kernel_rfl) (by kernel_rfl) (by rfl) ?_ | (refine wpB_text 5 (v := ?_) rfl (by kernel_rfl) (by kernel_rfl) (by kernel_rfl) (by rfl) (fun W hW => ?_) ?_; rotate_left; (obtain ⟨k1, k2, k3, k4, k5, k6, k7, k8, k9, k10⟩ := hW;  go_simp; refine comes_v ?_; exact ⟨k1, k2, k3, k4, k5, k6, k7, k8, k9, k10⟩))
    (try simp only [Act.put, List.setIfInBounds_toArray, List.set_cons_zero, List.set_cons_succ])
    first | refine wpB_skip 6 rfl (by kernel_rfl) (by kernel_rfl) (by kernel_rfl) (by rfl) ?_ | (refine wpB_text 6 (v := ?_) rfl (by kernel_rfl) (by kernel_rfl) (by kernel_rfl) (by rfl) (fun W hW => ?_) ?_; rotate_left; (obtain ⟨k1, k2, k3, k4, k5, k6, k7, k8, k9, k10⟩ := hW;  go_simp; refine comes_v ?_; exact ⟨k1, k2, k3, k4, k5, k6, k7, k8, k9, k10⟩))
    (try simp only [Act.put, List.setIfInBounds_toArray, List.set_cons_zero, List.set_cons_succ])
    first | refine wpB_skip 7 rfl (by kernel_rfl) (by kernel_rfl) (by kernel_rfl) (by rfl) ?_ | (refine wpB_text 7 (v := .int .i64 t2) rfl (by kernel_rfl) (by kernel_rfl) (by kernel_rfl) (by rfl) (fun W hW => ?_) ?_; (obtain ⟨k1, k2, k3, k4, k5, k6, k7, k8, k9, k10⟩ := hW;  go_simp; exact comes_c ( T2.out _) (fun wn hbn => held4 ⟨k1, k2, k3, k4, k5, k6, k7, k8, k9, k10⟩ hbn)))
    (try simp only [Act.put, List.setIfInBounds_toArray, List.set_cons_zero, List.set_cons_succ])
    first | refine wpB_skip 8 rfl (by kernel_rfl) (by kernel_rfl) (by kernel_rfl) (by rfl) ?_ | (refine wpB_text 8 (v := ?_) rfl (by kernel_rfl) (by kernel_rfl) (by kernel_rfl) (by rfl) (fun W hW => ?_) ?_; rotate_left; (obtain ⟨k1, k2, k3, k4, k5, k6, k7, k8, k9, k10⟩ := hW;  go_simp; refine comes_v ?_; exact ⟨k1, k2, k3, k4, k5, k6, k7, k8, k9, k10⟩))
    (try simp only [Act.put, List.setIfInBounds_toArray, List.set_cons_zero, List.set_cons_succ])
    first | refine wpB_skip 9 rfl (by kernel_rfl) (by kernel_rfl) (by kernel_rfl) (by rfl) ?_ | (refine wpB_text 9 (v := ?_) rfl (by kernel_rfl) (by kernel_rfl) (by kernel_rfl) (by rfl) (fun W hW => ?_) ?_; rotate_left; (obtain ⟨k1, k2, k3, k4, k5, k6, k7, k8, k9, k10⟩ := hW;  go_simp; refine comes_v ?_; exact ⟨k1, k2, k3, k4, k5, k6, k7, k8, k9, k10⟩))
    (try simp only [Act.put, List.setIfInBounds_toArray, List.set_cons_zero, List.set_cons_succ])
    first | refine wpB_skip 10 rfl (by kernel_rfl) (by kernel_rfl) (by kernel_rfl) (by rfl) ?_ | (refine wpB_text 10 (v := ?_) rfl (by kernel_rfl) (by kernel_rfl) (by kernel_rfl) (by rfl) (fun W hW => ?_) ?_; rotate_left; (obtain ⟨k1, k2, k3, k4, k5, k6, k7, k8, k9, k10⟩ := hW;  go_simp; refine comes_v ?_; exact ⟨k1, k2, k3, k4, k5, k6, k7, k8, k9, k10⟩))
    (try simp only [Act.put, List.setIfInBounds_toArray, List.set_cons_zero, List.set_cons_succ])
    first | refine wpB_skip 11 rfl (by kernel_rfl) (by kernel_rfl) (by kernel_rfl) (by rfl) ?_ | (refine wpB_text 11 (v := ?_) rfl (by kernel_rfl) (by kernel_rfl) (by kernel_rfl) (by rfl) (fun W hW => ?_) ?_; rotate_left; (obtain ⟨k1, k2, k3, k4, k5, k6, k7, k8, k9, k10⟩ := hW;  go_simp; refine comes_v ?_; exact ⟨k1, k2, k3, k4, k5, k6, k7, k8, k9, k10⟩))
    (try simp only [Act.put, List.setIfInBounds_toArray, List.set_cons_zero, List.set_cons_succ])
    first | refine wpB_skip 12 rfl (by kernel_rfl) (by kernel_rfl) (by kernel_rfl) (by rfl) ?_ | (refine wpB_text 12 (v := ?_) rfl (by kernel_rfl) (by kernel_rfl) (by kernel_rfl) (by rfl) (fun W hW => ?_) ?_; rotate_left; (obtain ⟨k1, k2, k3, k4, k5, k6, k7, k8, k9, k10⟩ := hW;  go_simp; refine comes_v ?_; exact ⟨k1, k2, k3, k4, k5, k6, k7, k8, k9, k10⟩))
    (try simp only [Act.put, List.setIfInBounds_toArray, List.set_cons_zero, List.set_cons_succ])
    first | refine wpB_skip 13 rfl (by kernel_rfl) (by kernel_rfl) (by kernel_rfl) (by rfl) ?_ | (refine wpB_text 13 (v := ?_) rfl (by kernel_rfl) (by kernel_rfl) (by kernel_rfl) (by rfl) (fun W hW => ?_) ?_; rotate_left; (obtain ⟨k1, k2, k3, k4, k5, k6, k7, k8, k9, k10⟩ := hW;  go_simp; refine comes_v ?_; exact ⟨k1, k2, k3, k4, k5, k6, k7, k8, k9, k10⟩))
    (try simp only [Act.put, List.setIfInBounds_toArray, List.set_cons_zero, List.set_cons_succ])
    first | refine wpB_skip 14 rfl (by kernel_rfl) (by kernel_rfl) (by kernel_rfl) (by rfl) ?_ | (refine wpB_text 14 (v := .int .i64 t3) rfl (by kernel_rfl) (by kernel_rfl) (by kernel_rfl) (by rfl) (fun W hW => ?_) ?_; (obtain ⟨k1, k2, k3, k4, k5, k6, k7, k8, k9, k10⟩ := hW;  go_simp; exact comes_c ( T3.out _) (fun wn hbn => held4 ⟨k1, k2, k3, k4, k5, k6, k7, k8, k9, k10⟩ hbn)))
    (try simp only [Act.put, List.setIfInBounds_toArray, List.set_cons_zero, List.set_cons_succ])
    first | refine wpB_skip 15 rfl (by kernel_rfl) (by kernel_rfl) (by kernel_rfl) (by rfl) ?_ | (refine wpB_text 15 (v := ?_) rfl (by kernel_rfl) (by kernel_rfl) (by kernel_rfl) (by rfl) (fun W hW => ?_) ?_; rotate_left; (obtain ⟨k1, k2, k3, k4, k5, k6, k7, k8, k9, k10⟩ := hW;  go_simp; refine comes_v ?_; exact ⟨k1, k2, k3, k4, k5, k6, k7, k8, k9, k10⟩))
    (try simp only [Act.put, List.setIfInBounds_toArray, List.set_cons_zero, List.set_cons_succ])
    first | refine wpB_skip 16 rfl (by kernel_rfl) (by kernel_rfl) (by kernel_rfl) (by rfl) ?_ | (refine wpB_text 16 (v := ?_) rfl (by kernel_rfl) (by kernel_rfl) (by kernel_rfl) (by rfl) (fun W hW => ?_) ?_; rotate_left; (obtain ⟨k1, k2, k3, k4, k5, k6, k7, k8, k9, k10⟩ := hW;  go_simp; refine comes_v ?_; exact ⟨k1, k2, k3, k4, k5, k6, k7, k8, k9, k10⟩))
    (try simp only [Act.put, List.setIfInBounds_toArray, List.set_cons_zero, List.set_cons_succ])
    first | refine wpB_skip 17 rfl (by kernel_rfl) (by kernel_rfl) (by kernel_rfl) (by rfl) ?_ | (refine wpB_text 17 (v := ?_) rfl (by kernel_rfl) (by kernel_rfl) (by kernel_rfl) (by rfl) (fun W hW => ?_) ?_; rotate_left; (obtain ⟨k1, k2, k3, k4, k5, k6, k7, k8, k9, k10⟩ := hW;  go_simp; refine comes_v ?_; exact ⟨k1, k2, k3, k4, k5, k6, k7, k8, k9, k10⟩))
    (try simp only [Act.put, List.setIfInBounds_toArray, List.set_cons_zero, List.set_cons_succ])
    first | refine wpB_skip 18 rfl (by kernel_rfl) (by kernel_rfl) (by kernel_rfl) (by rfl) ?_ | (refine wpB_text 18 (v := .int .i64 t4) rfl (by kernel_rfl) (by kernel_rfl) (by kernel_rfl) (by rfl) (fun W hW => ?_) ?_; (obtain ⟨k1, k2, k3, k4, k5, k6, k7, k8, k9, k10⟩ := hW;  go_simp; exact comes_c ( T4.out _) (fun wn hbn => held4 ⟨k1, k2, k3, k4, k5, k6, k7, k8, k9, k10⟩ hbn)))
    (try simp only [Act.put, List.setIfInBounds_toArray, List.set_cons_zero, List.set_cons_succ])
    first | refine wpB_skip 19 rfl (by kernel_rfl) (by kernel_rfl) (by kernel_rfl) (by rfl) ?_ | (refine wpB_text 19 (v := ?_) rfl (by kernel_rfl) (by kernel_rfl) (by kernel_rfl) (by rfl) (fun W hW => ?_) ?_; rotate_left; (obtain ⟨k1, k2, k3, k4, k5, k6, k7, k8, k9, k10⟩ := hW;  go_simp; refine comes_v ?_; exact ⟨k1, k2, k3, k4, k5, k6, k7, k8, k9, k10⟩))
    (try simp only [Act.put, List.setIfInBounds_toArray, List.set_cons_zero, List.set_cons_succ])
    first | refine wpB_skip 20 rfl (by kernel_rfl) (by kernel_rfl) (by kernel_rfl) (by rfl) ?_ | (refine wpB_text 20 (v := ?_) rfl (by kernel_rfl) (by kernel_rfl) (by kernel_rfl) (by rfl) (fun W hW => ?_) ?_; rotate_left; (obtain ⟨k1, k2, k3, k4, k5, k6, k7, k8, k9, k10⟩ := hW;  go_simp; refine comes_v ?_; exact ⟨k1, k2, k3, k4, k5, k6, k7, k8, k9, k10⟩))
    (try simp only [Act.put, List.setIfInBounds_toArray, List.set_cons_zero, List.set_cons_succ])
    first | refine wpB_skip 21 rfl (by kernel_rfl) (by kernel_rfl) (by kernel_rfl) (by rfl) ?_ | (refine wpB_text 21 (v := ?_) rfl (by kernel_rfl) (by kernel_rfl) (by kernel_rfl) (by rfl) (fun W hW => ?_) ?_; rotate_left; (obtain ⟨k1, k2, k3, k4, k5, k6, k7, k8, k9, k10⟩ := hW;  go_simp; refine comes_v ?_; exact ⟨k1, k2, k3, k4, k5, k6, k7, k8, k9, k10⟩))
    (try simp only [Act.put, List.setIfInBounds_toArray, List.set_cons_zero, List.set_cons_succ])
    first | refine wpB_skip 22 rfl (by kernel_rfl) (by kernel_rfl) (by kernel_rfl) (by rfl) ?_ | (refine wpB_text 22 (v := ?_) rfl (by kernel_rfl) (by kernel_rfl) (by kernel_rfl) (by rfl) (fun W hW => ?_) ?_; rotate_left; (obtain ⟨k1, k2, k3, k4, k5, k6, k7, k8, k9, k10⟩ := hW;  go_simp; refine comes_v ?_; exact ⟨k1, k2, k3, k4, k5, k6, k7, k8, k9, k10⟩))
    (try simp only [Act.put, List.setIfInBounds_toArray, List.set_cons_zero, List.set_cons_succ])
    refine wpB_done (by kernel_rfl) ?_ _
    intro W hW; obtain ⟨k1, k2, k3, k4, k5, k6, k7, k8, k9, k10⟩ := hW
    clear e1 e2
    go_wp2_with fail
    go_ret
    exact ⟨ret_bool (by simp [hm]), k1⟩
theorem linesMeet_any (a1 a2 b1 b2 c1 c2 d1 d2 : Int) (w : World) (pa : isPegB a1 a2 = true) (pb : isPegB b1 b2 = true) (pc : isPegB c1 c2 = true) (pd : isPegB d1 d2 = true) :
    Calls Try.prog 83 #[.agg #[.int .i64 a1, .int .i64 a2], .agg #[.int .i64 b1, .int .i64 b2], .agg #[.int .i64 c1, .int .i64 c2], .agg #[.int .i64 d1, .int .i64 d2]] w fun e w' => e = .returned (.bool (meetB a1 a2 b1 b2 c1 c2 d1 d2)) ∧ Below w.heap.size w w' := by
  have ha := sz_of pa
  have hb := sz_of pb
  have hc := sz_of pc
  have hd := sz_of pd
  have K1 := Lib.hid (fun W => isBetween_any a1 a2 c1 c2 d1 d2 W ha hc hd)
  have K2 := Lib.hid (fun W => isBetween_any b1 b2 c1 c2 d1 d2 W hb hc hd)
  have K3 := Lib.hid (fun W => isBetween_any c1 c2 a1 a2 b1 b2 W hc ha hb)
  have K4 := Lib.hid (fun W => isBetween_any d1 d2 a1 a2 b1 b2 W hd ha hb)
  have KX := Lib.hid (fun W => linesCross_any a1 a2 b1 b2 c1 c2 d1 d2 W pa pb pc pd)
  clear ha hb hc hd pa pb pc pd
  have eq : meetB a1 a2 b1 b2 c1 c2 d1 d2 = (onB c1 c2 d1 d2 a1 a2 || onB c1 c2 d1 d2 b1 b2 || onB a1 a2 b1 b2 c1 c2 || onB a1 a2 b1 b2 d1 d2 ||
      (decide (twI a1 a2 b1 b2 c1 c2 * twI a1 a2 b1 b2 d1 d2 < 0) && decide (twI c1 c2 d1 d2 a1 a2 * twI c1 c2 d1 d2 b1 b2 < 0))) := by
    unfold meetB; rw [Bool.decide_and]
    generalize onB a1 a2 b1 b2 c1 c2 = o1
    generalize onB a1 a2 b1 b2 d1 d2 = o2
    generalize onB c1 c2 d1 d2 a1 a2 = o3
    generalize onB c1 c2 d1 d2 b1 b2 = o4
    cases o1 <;> cases o2 <;> cases o3 <;> cases o4 <;> rfl
  rw [eq]
  clear eq
  generalize twI a1 a2 b1 b2 c1 c2 = t1 at *
  generalize twI a1 a2 b1 b2 d1 d2 = t2 at *
  generalize twI c1 c2 d1 d2 a1 a2 = t3 at *
  generalize twI c1 c2 d1 d2 b1 b2 = t4 at *
  generalize onB c1 c2 d1 d2 a1 a2 = o1 at *
  generalize onB c1 c2 d1 d2 b1 b2 = o2 at *
  generalize onB a1 a2 b1 b2 c1 c2 = o3 at *
  generalize onB a1 a2 b1 b2 d1 d2 = o4 at *
  cases o1
  · go_enter Try.func83, Try.ntmps83
    go_wp2_with fail
    refine (K1.out _).mono ?_; rintro e w1 ⟨rfl, hb1⟩
    obtain ⟨hc1, hf1⟩ := bcell hb1
    have z1_0 : w.heap.size < w1.heap.size := by (have := hb1.size; simp at this; omega)
    have z1_1 : w.heap.size + 1 < w1.heap.size := by (have := hb1.size; simp at this; omega)
    have z1_2 : w.heap.size + 2 < w1.heap.size := by (have := hb1.size; simp at this; omega)
    have z1_3 : w.heap.size + 3 < w1.heap.size := by (have := hb1.size; simp at this; omega)
    have B1 : Below w.heap.size w w1 := (Below.alloc (Below.alloc (Below.alloc (Below.alloc (Below.refl _ _) (by simp <;> omega) _) (by simp <;> omega) _) (by simp <;> omega) _) (by simp <;> omega) _).trans (hb1.mono (by simp <;> omega))
    go_wp2_with fail
    cases o2
    · refine (K2.out _).mono ?_; rintro e w2 ⟨rfl, hb2⟩
      obtain ⟨hc2, hf2⟩ := bcell hb2
      have z2_0 : w.heap.size < w2.heap.size := by (have := hb2.size; omega)
      have z2_1 : w.heap.size + 1 < w2.heap.size := by (have := hb2.size; omega)
      have z2_2 : w.heap.size + 2 < w2.heap.size := by (have := hb2.size; omega)
      have z2_3 : w.heap.size + 3 < w2.heap.size := by (have := hb2.size; omega)
      have B2 : Below w.heap.size w w2 := B1.trans (hb2.mono (by have := B1.size; omega))
      go_wp2_with fail
      cases o3
      · refine (K3.out _).mono ?_; rintro e w3 ⟨rfl, hb3⟩
        obtain ⟨hc3, hf3⟩ := bcell hb3
        have z3_0 : w.heap.size < w3.heap.size := by (have := hb3.size; omega)
        have z3_1 : w.heap.size + 1 < w3.heap.size := by (have := hb3.size; omega)
        have z3_2 : w.heap.size + 2 < w3.heap.size := by (have := hb3.size; omega)
        have z3_3 : w.heap.size + 3 < w3.heap.size := by (have := hb3.size; omega)
        have B3 : Below w.heap.size w w3 := B2.trans (hb3.mono (by have := B2.size; omega))
        go_wp2_with fail
        cases o4
        · refine (K4.out _).mono ?_; rintro e w4 ⟨rfl, hb4⟩
          obtain ⟨hc4, hf4⟩ := bcell hb4
          have z4_0 : w.heap.size < w4.heap.size := by (have := hb4.size; omega)
          have z4_1 : w.heap.size + 1 < w4.heap.size := by (have := hb4.size; omega)
          have z4_2 : w.heap.size + 2 < w4.heap.size := by (have := hb4.size; omega)
          have z4_3 : w.heap.size + 3 < w4.heap.size := by (have := hb4.size; omega)
          have B4 : Below w.heap.size w w4 := B3.trans (hb4.mono (by have := B3.size; omega))
          go_wp2_with fail
          refine (KX.out _).mono ?_; rintro e w5 ⟨rfl, hb5⟩
          obtain ⟨hc5, hf5⟩ := bcell hb5
          have z5_0 : w.heap.size < w5.heap.size := by (have := hb5.size; omega)
          have z5_1 : w.heap.size + 1 < w5.heap.size := by (have := hb5.size; omega)
          have z5_2 : w.heap.size + 2 < w5.heap.size := by (have := hb5.size; omega)
          have z5_3 : w.heap.size + 3 < w5.heap.size := by (have := hb5.size; omega)
          have B5 : Below w.heap.size w w5 := B4.trans (hb5.mono (by have := B4.size; omega))
          go_wp2_with fail
          go_ret
          exact ⟨rfl, B5⟩
        · refine (K4.out _).mono ?_; rintro e w4 ⟨rfl, hb4⟩
          obtain ⟨hc4, hf4⟩ := bcell hb4
          have z4_0 : w.heap.size < w4.heap.size := by (have := hb4.size; omega)
          have z4_1 : w.heap.size + 1 < w4.heap.size := by (have := hb4.size; omega)
          have z4_2 : w.heap.size + 2 < w4.heap.size := by (have := hb4.size; omega)
          have z4_3 : w.heap.size + 3 < w4.heap.size := by (have := hb4.size; omega)
          have B4 : Below w.heap.size w w4 := B3.trans (hb4.mono (by have := B3.size; omega))
          go_wp2_with fail
          go_ret
          exact ⟨rfl, B4⟩
      · refine (K3.out _).mono ?_; rintro e w3 ⟨rfl, hb3⟩
        obtain ⟨hc3, hf3⟩ := bcell hb3
        have z3_0 : w.heap.size < w3.heap.size := by (have := hb3.size; omega)
        have z3_1 : w.heap.size + 1 < w3.heap.size := by (have := hb3.size; omega)
        have z3_2 : w.heap.size + 2 < w3.heap.size := by (have := hb3.size; omega)
        have z3_3 : w.heap.size + 3 < w3.heap.size := by (have := hb3.size; omega)
        have B3 : Below w.heap.size w w3 := B2.trans (hb3.mono (by have := B2.size; omega))
        go_wp2_with fail
        go_ret
        exact ⟨rfl, B3⟩
    · refine (K2.out _).mono ?_; rintro e w2 ⟨rfl, hb2⟩
      obtain ⟨hc2, hf2⟩ := bcell hb2
      have z2_0 : w.heap.size < w2.heap.size := by (have := hb2.size; omega)
      have z2_1 : w.heap.size + 1 < w2.heap.size := by (have := hb2.size; omega)
      have z2_2 : w.heap.size + 2 < w2.heap.size := by (have := hb2.size; omega)
      have z2_3 : w.heap.size + 3 < w2.heap.size := by (have := hb2.size; omega)
      have B2 : Below w.heap.size w w2 := B1.trans (hb2.mono (by have := B1.size; omega))
      go_wp2_with fail
      go_ret
      exact ⟨rfl, B2⟩
  · go_enter Try.func83, Try.ntmps83
    go_wp2_with fail
    refine (K1.out _).mono ?_; rintro e w1 ⟨rfl, hb1⟩
    obtain ⟨hc1, hf1⟩ := bcell hb1
    have z1_0 : w.heap.size < w1.heap.size := by (have := hb1.size; simp at this; omega)
    have z1_1 : w.heap.size + 1 < w1.heap.size := by (have := hb1.size; simp at this; omega)
    have z1_2 : w.heap.size + 2 < w1.heap.size := by (have := hb1.size; simp at this; omega)
    have z1_3 : w.heap.size + 3 < w1.heap.size := by (have := hb1.size; simp at this; omega)
    have B1 : Below w.heap.size w w1 := (Below.alloc (Below.alloc (Below.alloc (Below.alloc (Below.refl _ _) (by simp <;> omega) _) (by simp <;> omega) _) (by simp <;> omega) _) (by simp <;> omega) _).trans (hb1.mono (by simp <;> omega))
    go_wp2_with fail
    go_ret
    exact ⟨rfl, B1⟩
end Go.Proofs.Ytjkfdcjfoliboaa
/- contracts: a corner's turn; two lines of a polygon that cross -/
namespace Go.Proofs.Ytjkfdcjfoliboaa
open Go.ChangeShapes Go.WideShapes Go.ChangeAt Go.RowKit Go.Joins
set_option linter.unusedVariables false
set_option linter.unusedSimpArgs false
set_option maxRecDepth 4000
theorem turn_any (p1 p2 b1 b2 c1 c2 : Int) (w : World) (hp : Sz p1 p2) (hb : Sz b1 b2) (hc : Sz c1 c2) :
    Calls Try.prog 40 #[.agg #[.int .i64 p1, .int .i64 p2, .int .i64 b1, .int .i64 b2, .int .i64 c1, .int .i64 c2]] w fun e w' => e = .returned (.int .i64 (twI b1 b2 p1 p2 c1 c2)) ∧ Below w.heap.size w w' := by
  have K := Lib.hid (fun W => twiceThree_any b1 b2 p1 p2 c1 c2 W hb hp hc)
  go_enter Try.func40, Try.ntmps40
  go_wp2_with fail
  refine (K.out _).mono ?_; rintro e w1 ⟨rfl, hb1⟩
  obtain ⟨hc1, hf1⟩ := bcell hb1
  have z1_0 : w.heap.size < w1.heap.size := by (have := hb1.size; simp at this; omega)
  have B1 : Below w.heap.size w w1 := (Below.alloc (Below.refl _ _) (by simp <;> omega) _).trans (hb1.mono (by simp <;> omega))
  go_wp2_with fail
  go_ret
  exact ⟨rfl, B1⟩
/-- two lines, each from a corner to the one behind it, cross: lines next to each other are left out -/
def crB (p1 p2 c1 c2 q1 q2 d1 d2 : Int) : Bool := !(decide (c1 = q1) && decide (c2 = q2)) && !(decide (d1 = p1) && decide (d2 = p2)) && meetB p1 p2 c1 c2 q1 q2 d1 d2
theorem isCrossing_any (p1 p2 b1 b2 c1 c2 q1 q2 a1 a2 d1 d2 : Int) (w : World) (hp : isPegB p1 p2 = true) (hc : isPegB c1 c2 = true) (hq : isPegB q1 q2 = true) (hd : isPegB d1 d2 = true) :
    Calls Try.prog 67 #[.agg #[.int .i64 p1, .int .i64 p2, .int .i64 b1, .int .i64 b2, .int .i64 c1, .int .i64 c2], .agg #[.int .i64 q1, .int .i64 q2, .int .i64 a1, .int .i64 a2, .int .i64 d1, .int .i64 d2]] w fun e w' => e = .returned (.bool (crB p1 p2 c1 c2 q1 q2 d1 d2)) ∧ Below w.heap.size w w' := by
  have K := Lib.hid (fun W => linesMeet_any p1 p2 c1 c2 q1 q2 d1 d2 W hp hc hq hd)
  clear hp hc hq hd
  by_cases h1 : c1 = q1 ∧ c2 = q2
  · obtain ⟨rfl, rfl⟩ := h1
    go_enter Try.func67, Try.ntmps67
    go_wp2_with fail
    go_ret
    exact ⟨ret_bool (by simp [crB]), (by repeat (first | exact Below.refl _ _ | assumption | apply Below.drew | refine Below.alloc ?_ (by simp <;> omega) _))⟩
  · by_cases h2 : d1 = p1 ∧ d2 = p2
    · obtain ⟨rfl, rfl⟩ := h2
      by_cases h3 : c1 = q1
      · have h4 : ¬ c2 = q2 := fun h => h1 ⟨h3, h⟩
        subst h3
        clear h1
        go_enter Try.func67, Try.ntmps67
        go_wp2_with fail
        go_ret
        exact ⟨ret_bool (by simp [crB]), (by repeat (first | exact Below.refl _ _ | assumption | apply Below.drew | refine Below.alloc ?_ (by simp <;> omega) _))⟩
      · clear h1
        go_enter Try.func67, Try.ntmps67
        go_wp2_with fail
        go_ret
        exact ⟨ret_bool (by simp [crB]), (by repeat (first | exact Below.refl _ _ | assumption | apply Below.drew | refine Below.alloc ?_ (by simp <;> omega) _))⟩
    · have e : crB p1 p2 c1 c2 q1 q2 d1 d2 = meetB p1 p2 c1 c2 q1 q2 d1 d2 := by
        have x1 : (decide (c1 = q1) && decide (c2 = q2)) = false := by simpa using h1
        have x2 : (decide (d1 = p1) && decide (d2 = p2)) = false := by simpa using h2
        unfold crB; rw [x1, x2]; rfl
      rw [e]
      clear e
      generalize meetB p1 p2 c1 c2 q1 q2 d1 d2 = m at *
      by_cases h3 : c1 = q1 <;> by_cases h4 : d1 = p1
      · have h5 : ¬ c2 = q2 := fun h => h1 ⟨h3, h⟩
        have h6 : ¬ d2 = p2 := fun h => h2 ⟨h4, h⟩
        subst h3 h4
        clear h1 h2
        go_enter Try.func67, Try.ntmps67
        go_wp2_with fail
        refine (K.out _).mono ?_; rintro e w1 ⟨rfl, hb1⟩
        obtain ⟨hc1, hf1⟩ := bcell hb1
        have z1_0 : w.heap.size < w1.heap.size := by (have := hb1.size; simp at this; omega)
        have z1_1 : w.heap.size + 1 < w1.heap.size := by (have := hb1.size; simp at this; omega)
        have B1 : Below w.heap.size w w1 := (Below.alloc (Below.alloc (Below.refl _ _) (by simp <;> omega) _) (by simp <;> omega) _).trans (hb1.mono (by simp <;> omega))
        go_wp2_with fail
        go_ret
        exact ⟨rfl, B1⟩
      · have h5 : ¬ c2 = q2 := fun h => h1 ⟨h3, h⟩
        subst h3
        clear h1 h2
        go_enter Try.func67, Try.ntmps67
        go_wp2_with fail
        refine (K.out _).mono ?_; rintro e w1 ⟨rfl, hb1⟩
        obtain ⟨hc1, hf1⟩ := bcell hb1
        have z1_0 : w.heap.size < w1.heap.size := by (have := hb1.size; simp at this; omega)
        have z1_1 : w.heap.size + 1 < w1.heap.size := by (have := hb1.size; simp at this; omega)
        have B1 : Below w.heap.size w w1 := (Below.alloc (Below.alloc (Below.refl _ _) (by simp <;> omega) _) (by simp <;> omega) _).trans (hb1.mono (by simp <;> omega))
        go_wp2_with fail
        go_ret
        exact ⟨rfl, B1⟩
      · have h6 : ¬ d2 = p2 := fun h => h2 ⟨h4, h⟩
        subst h4
        clear h1 h2
        go_enter Try.func67, Try.ntmps67
        go_wp2_with fail
        refine (K.out _).mono ?_; rintro e w1 ⟨rfl, hb1⟩
        obtain ⟨hc1, hf1⟩ := bcell hb1
        have z1_0 : w.heap.size < w1.heap.size := by (have := hb1.size; simp at this; omega)
        have z1_1 : w.heap.size + 1 < w1.heap.size := by (have := hb1.size; simp at this; omega)
        have B1 : Below w.heap.size w w1 := (Below.alloc (Below.alloc (Below.refl _ _) (by simp <;> omega) _) (by simp <;> omega) _).trans (hb1.mono (by simp <;> omega))
        go_wp2_with fail
        go_ret
        exact ⟨rfl, B1⟩
      · clear h1 h2
        go_enter Try.func67, Try.ntmps67
        go_wp2_with fail
        refine (K.out _).mono ?_; rintro e w1 ⟨rfl, hb1⟩
        obtain ⟨hc1, hf1⟩ := bcell hb1
        have z1_0 : w.heap.size < w1.heap.size := by (have := hb1.size; simp at this; omega)
        have z1_1 : w.heap.size + 1 < w1.heap.size := by (have := hb1.size; simp at this; omega)
        have B1 : Below w.heap.size w w1 := (Below.alloc (Below.alloc (Below.refl _ _) (by simp <;> omega) _) (by simp <;> omega) _).trans (hb1.mono (by simp <;> omega))
        go_wp2_with fail
        go_ret
        exact ⟨rfl, B1⟩
end Go.Proofs.Ytjkfdcjfoliboaa
/- contract: the program's test of a polygon -/
namespace Go.Proofs.Ytjkfdcjfoliboaa
open Go.ChangeShapes Go.WideShapes Go.ChangeAt Go.RowKit Go.Joins
set_option linter.unusedVariables false
set_option linter.unusedSimpArgs false
set_option maxRecDepth 4000
theorem onB_or (a b c d e : Bool) : (a || b || c || d || e) = (c || d || a || b || e) := by cases a <;> cases b <;> cases c <;> cases d <;> rfl
theorem meetB_comm (a1 a2 b1 b2 c1 c2 d1 d2 : Int) : meetB a1 a2 b1 b2 c1 c2 d1 d2 = meetB c1 c2 d1 d2 a1 a2 b1 b2 := by
  unfold meetB; rw [onB_or]; congr 1; rw [decide_eq_decide]; exact And.comm
theorem meP_comm (a b c d : Int × Int) : meP a b c d = meP c d a b := meetB_comm ..
theorem vx_add (l : List (Int × Int)) (i : Nat) : vx l (i + l.length) = vx l i := by unfold vx; rw [Nat.add_mod_right]
def crP (p c q d : Int × Int) : Bool := crB p.1 p.2 c.1 c.2 q.1 q.2 d.1 d.2
theorem crP_iff (p c q d : Int × Int) : crP p c q d = false ↔ (c = q ∨ d = p ∨ meP p c q d = false) := by
  unfold crP crB meP
  have e1 : c = q ↔ c.1 = q.1 ∧ c.2 = q.2 := ⟨fun h => by rw [h]; exact ⟨rfl, rfl⟩, fun h => Prod.ext h.1 h.2⟩
  have e2 : d = p ↔ d.1 = p.1 ∧ d.2 = p.2 := ⟨fun h => by rw [h]; exact ⟨rfl, rfl⟩, fun h => Prod.ext h.1 h.2⟩
  rw [e1, e2]
  generalize meetB p.1 p.2 c.1 c.2 q.1 q.2 d.1 d.2 = m
  by_cases h1 : c.1 = q.1 <;> by_cases h2 : c.2 = q.2 <;> by_cases h3 : d.1 = p.1 <;> by_cases h4 : d.2 = p.2 <;> simp [h1, h2, h3, h4]
/-- what the program looks at, corner by corner -/
def Seen (l : List (Int × Int)) (k : Nat) : Prop := ∀ i, i < k → twP (vx l (i + l.length - 1)) (vx l i) (vx l (i + 1)) ≠ 0 ∧ ∀ j, j < i → vx l i ≠ vx l j ∧ crP (vx l i) (vx l (i + 1)) (vx l j) (vx l (j + 1)) = false
theorem good_seen {l : List (Int × Int)} (h : Good l) : Seen l l.length := by
  intro i hi
  have hn := h.few.1
  refine ⟨?_, fun j hj => ⟨h.diff i j hj hi, ?_⟩⟩
  · by_cases h0 : i = 0
    · subst h0
      have := h.turn (l.length - 1) (by omega)
      rw [show l.length - 1 + 1 = 0 + l.length by omega, show l.length - 1 + 2 = 1 + l.length by omega, vx_add, vx_add] at this
      rw [show 0 + l.length - 1 = l.length - 1 by omega]; exact this
    · have := h.turn (i - 1) (by omega)
      rw [show i - 1 + 1 = i by omega, show i - 1 + 2 = i + 1 by omega] at this
      rw [show i + l.length - 1 = (i - 1) + l.length by omega, vx_add]; exact this
  · rw [crP_iff]
    by_cases h1 : j + 1 = i
    · right; left; rw [h1]
    · by_cases h2 : i + 1 = l.length ∧ j = 0
      · left; rw [h2.1, h2.2, show l.length = 0 + l.length by omega, vx_add]
      · right; right; rw [meP_comm]; exact h.apart j i (by omega) hi (by omega)
theorem seen_good {l : List (Int × Int)} (h0 : 3 ≤ l.length ∧ l.length ≤ 10) (hp : ∀ i, i < l.length → isPg (vx l i) = true) (h : Seen l l.length) : Good l := by
  have df : ∀ i j, j < i → i < l.length → vx l i ≠ vx l j := fun i j hj hi => ((h i hi).2 j hj).1
  refine ⟨h0, hp, df, fun i hi => ?_, fun i k hk hkn hki => ?_⟩
  · by_cases h1 : i + 1 = l.length
    · have := (h 0 (by omega)).1
      rw [show 0 + l.length - 1 = i by omega] at this
      rw [show i + 1 = 0 + l.length by omega, show i + 2 = 0 + 1 + l.length by omega, vx_add, vx_add]; exact this
    · have := (h (i + 1) (by omega)).1
      rw [show i + 1 + l.length - 1 = i + l.length by omega, vx_add] at this
      exact this
  · have := ((h k hkn).2 i (by omega)).2
    rw [crP_iff] at this
    rcases this with h1 | h1 | h1
    · by_cases h2 : k + 1 = l.length
      · rw [h2, show l.length = 0 + l.length by omega, vx_add] at h1
        by_cases h3 : i = 0
        · omega
        · exact absurd h1.symm (df i 0 (by omega) (by omega))
      · exact absurd h1 (df (k + 1) i (by omega) (by omega))
    · exact absurd h1.symm (df k (i + 1) (by omega) hkn)
    · rw [meP_comm]; exact h1
end Go.Proofs.Ytjkfdcjfoliboaa
/- the first of some points, and lists told from it -/
namespace Go.Proofs.Ytjkfdcjfoliboaa
open Go.ChangeShapes Go.WideShapes Go.ChangeAt Go.RowKit Go.Joins
set_option linter.unusedVariables false
set_option linter.unusedSimpArgs false
set_option maxRecDepth 4000
def ltP (p q : Int × Int) : Bool := decide (p.1 < q.1) || (decide (p.1 = q.1) && decide (p.2 < q.2))
theorem ltP_self (p : Int × Int) : ltP p p = false := by unfold ltP; simp
theorem ltP_eq {p q : Int × Int} (h1 : ltP p q = false) (h2 : ltP q p = false) : p = q := by
  unfold ltP at *
  simp only [Bool.or_eq_false_iff, Bool.and_eq_false_iff, decide_eq_false_iff_not] at h1 h2
  apply Prod.ext <;> omega
theorem ltP_trans {p q r : Int × Int} (h1 : ltP p q = false) (h2 : ltP q r = false) : ltP p r = false := by
  unfold ltP at *
  simp only [Bool.or_eq_false_iff, Bool.and_eq_false_iff, decide_eq_false_iff_not] at h1 h2 ⊢
  omega
/-- the number of the first one of the first k points -/
def minI (f : Nat → Int × Int) : Nat → Nat
  | 0 => 0
  | i + 1 => if ltP (f i) (f (minI f i)) = true then i else minI f i
theorem minI_lt (f : Nat → Int × Int) : ∀ (k : Nat), 0 < k → minI f k < k
  | 0, h => absurd h (Nat.lt_irrefl 0)
  | 1, _ => by
    show (if ltP (f 0) (f 0) = true then 0 else 0) < 1
    split <;> omega
  | k + 2, _ => by
    have := minI_lt f (k + 1) (Nat.succ_pos k)
    show (if ltP (f (k + 1)) (f (minI f (k + 1))) = true then k + 1 else minI f (k + 1)) < k + 2
    split <;> omega
theorem minI_le (f : Nat → Int × Int) : ∀ (k i : Nat), i < k → ltP (f i) (f (minI f k)) = false
  | 0, i, h => absurd h (Nat.not_lt_zero i)
  | k + 1, i, h => by
    show ltP (f i) (f (if ltP (f k) (f (minI f k)) = true then k else minI f k)) = false
    by_cases hl : ltP (f k) (f (minI f k)) = true
    · rw [if_pos hl]
      by_cases hik : i = k
      · rw [hik]; exact ltP_self _
      · have h1 := minI_le f k i (by omega)
        have h2 : ltP (f (minI f k)) (f k) = false := by
          unfold ltP at hl ⊢
          simp only [Bool.or_eq_true, Bool.and_eq_true, decide_eq_true_eq] at hl
          simp only [Bool.or_eq_false_iff, Bool.and_eq_false_iff, decide_eq_false_iff_not]
          omega
        exact ltP_trans h1 h2
    · rw [if_neg hl]
      by_cases hik : i = k
      · rw [hik]; simpa using hl
      · exact minI_le f k i (by omega)
theorem firsts_same {f g : Nat → Int × Int} (n : Nat) (h : ∀ i, i < n → f i = g i) : firsts f n = firsts g n := by
  unfold firsts
  apply List.map_congr_left
  intro i hi
  exact h i (List.mem_range.1 hi)
theorem good_inj {l : List (Int × Int)} (h : Good l) {i j : Nat} (hi : i < l.length) (hj : j < l.length) (e : vx l i = vx l j) : i = j := by
  rcases Nat.lt_trichotomy i j with h1 | h1 | h1
  · exact absurd e.symm (h.diff j i h1 hj)
  · exact h1
  · exact absurd e (h.diff i j h1 hi)
/-- told backwards, the first corner has the number that goes with it -/
theorem first_back {l : List (Int × Int)} (h : Good l) : (l.length - minI (backF l) l.length) % l.length = minI (vx l) l.length := by
  have hn := good_pos h
  have k1 := minI_lt (backF l) l.length hn
  have k2 := minI_lt (vx l) l.length hn
  generalize hk : minI (backF l) l.length = k at *
  generalize hf : minI (vx l) l.length = q at *
  refine good_inj h (Nat.mod_lt _ hn) k2 ?_
  rw [vx_per]
  refine ltP_eq ?_ ?_
  · have h1 := minI_le (backF l) l.length ((l.length - q) % l.length) (Nat.mod_lt _ hn)
    rw [hk] at h1
    have e : backF l ((l.length - q) % l.length) = vx l q := by
      unfold backF
      by_cases h0 : q = 0
      · subst h0
        rw [Nat.sub_zero, Nat.mod_self, Nat.sub_zero]
        have := vx_add l 0
        rw [Nat.zero_add] at this
        exact this
      · rw [Nat.mod_eq_of_lt (by omega), show l.length - (l.length - q) = q by omega]
    rw [e] at h1
    have h2 := minI_le (vx l) l.length ((l.length - k) % l.length) (Nat.mod_lt _ hn)
    rw [hf, vx_per] at h2
    exact h2
  · have h1 := minI_le (backF l) l.length ((l.length - q) % l.length) (Nat.mod_lt _ hn)
    rw [hk] at h1
    have e : backF l ((l.length - q) % l.length) = vx l q := by
      unfold backF
      by_cases h0 : q = 0
      · subst h0
        rw [Nat.sub_zero, Nat.mod_self, Nat.sub_zero]
        have := vx_add l 0
        rw [Nat.zero_add] at this
        exact this
      · rw [Nat.mod_eq_of_lt (by omega), show l.length - (l.length - q) = q by omega]
    rw [e] at h1
    exact h1
theorem mod_back (n q k i : Nat) (hk : k < n) (hq : (n - k) % n = q) (hi : i < n) : (n - (k + i) % n) % n = (q + n - i) % n := by
  by_cases h0 : k = 0
  · subst h0
    rw [Nat.sub_zero, Nat.mod_self] at hq
    subst hq
    rw [Nat.zero_add, Nat.mod_eq_of_lt hi, Nat.zero_add]
  · rw [Nat.mod_eq_of_lt (by omega)] at hq
    subst hq
    by_cases h1 : k + i < n
    · rw [Nat.mod_eq_of_lt h1, show n - k + n - i = n - (k + i) + n by omega, Nat.add_mod_right]
    · rw [show k + i = (k + i - n) + n by omega, Nat.add_mod_right, Nat.mod_eq_of_lt (show k + i - n < n by omega)]
      rw [show n - k + n - i = n - (k + i - n) by omega]
/-- what TellFirst returns -/
def tellF (l : List (Int × Int)) (i : Nat) : Int × Int := if areaN l < 0 then vx l ((minI (vx l) l.length + l.length - i) % l.length) else vx l ((minI (vx l) l.length + i + l.length) % l.length)
theorem tell_back {l : List (Int × Int)} (h : Good l) (ha : areaN l < 0) (i : Nat) (hi : i < l.length) : backF l ((minI (backF l) l.length + i) % l.length) = tellF l i := by
  unfold tellF
  rw [if_pos ha]
  have e := mod_back l.length _ _ i (minI_lt (backF l) l.length (good_pos h)) (first_back h) hi
  rw [← e, vx_per]
  rfl
theorem tell_fore {l : List (Int × Int)} (ha : ¬ areaN l < 0) (i : Nat) : vx l ((minI (vx l) l.length + i) % l.length) = tellF l i := by
  unfold tellF
  rw [if_neg ha, Nat.add_mod_right]
end Go.Proofs.Ytjkfdcjfoliboaa

