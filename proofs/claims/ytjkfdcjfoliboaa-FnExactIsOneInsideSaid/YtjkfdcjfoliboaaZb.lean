/- plain mathematics: around a polygon -/
import Derived.Test.YtjkfdcjfoliboaaZa
namespace Go.Proofs.Ytjkfdcjfoliboaa.MJ
set_option linter.unusedVariables false
set_option linter.unusedSimpArgs false
/-- sums -/
def sm (f : Nat → Int) : Nat → Int
  | 0 => 0
  | n + 1 => sm f n + f n
theorem sm_congr {f g : Nat → Int} {n : Nat} (h : ∀ i, i < n → f i = g i) : sm f n = sm g n := by
  induction n with
  | zero => rfl
  | succ n ih => simp only [sm]; rw [ih (fun i hi => h i (by omega)), h n (by omega)]
theorem sm_add (f g : Nat → Int) (n : Nat) : sm (fun i => f i + g i) n = sm f n + sm g n := by
  induction n with
  | zero => rfl
  | succ n ih => simp only [sm]; omega
theorem sm_sub (f g : Nat → Int) (n : Nat) : sm (fun i => f i - g i) n = sm f n - sm g n := by
  induction n with
  | zero => rfl
  | succ n ih => simp only [sm]; omega
theorem sm_tele (f : Nat → Int) (n : Nat) : sm (fun i => f (i + 1) - f i) n = f n - f 0 := by
  induction n with
  | zero => simp [sm]
  | succ n ih => simp only [sm]; omega
theorem sm_head (f : Nat → Int) (n : Nat) : sm f (n + 1) = f 0 + sm (fun i => f (i + 1)) n := by
  induction n with
  | zero => simp [sm]
  | succ n ih => rw [sm, ih]; simp only [sm]; omega
theorem sm_zero {f : Nat → Int} {n : Nat} (h : ∀ i, i < n → f i = 0) : sm f n = 0 := by
  induction n with
  | zero => rfl
  | succ n ih => simp only [sm]; rw [ih (fun i hi => h i (by omega)), h n (by omega)]; rfl
/-- a window of one period, wherever it begins -/
theorem sm_shift {f : Nat → Int} {n : Nat} (hp : ∀ i, f (i + n) = f i) (s : Nat) : sm (fun i => f (s + i)) n = sm f n := by
  induction s with
  | zero => exact sm_congr fun i _ => by rw [Nat.zero_add]
  | succ s ih =>
    rw [← ih]
    have h1 := sm_head (fun i => f (s + i)) n
    have h2 : sm (fun i => f (s + i)) (n + 1) = sm (fun i => f (s + i)) n + f (s + n) := rfl
    have h3 := hp s
    have h4 : sm (fun i => f (s + (i + 1))) n = sm (fun i => f (s + 1 + i)) n := sm_congr fun i _ => by rw [Nat.add_comm i 1, Nat.add_assoc]
    simp only [Nat.add_zero] at h1
    omega

/-- a polygon that does not cross itself (straight corners let in), as a periodic row of points -/
structure Simple (v : Nat → Pt) (n : Nat) : Prop where
  three : 3 ≤ n
  per : ∀ i, v (i + n) = v i
  adj : ∀ i, adj (v i) (v (i + 1)) (v (i + 2))
  apart : ∀ i j, i + 2 ≤ j → j + 2 ≤ i + n → ¬ meets (v i) (v (i + 1)) (v j) (v (j + 1))
/-- crossings of the lines that do not end at corner k with its ray -/
def Fk (v : Nat → Pt) (n k : Nat) : Int := sm (fun j => cr (v (k + 1 + j)) (v (k + 2 + j)) (v k)) (n - 2)
/-- what is constant: how often the polygon goes round the points at its left side -/
def Ck (v : Nat → Pt) (n k : Nat) : Int :=
  Fk v n k + (rh (v k) (v (k + 1)) (v (k + n - 1)) + cr (v (k + n - 1)) (v k) (v (k + 1))) + up (v k) (v (k + 1))
theorem Ck_step {v : Nat → Pt} {n : Nat} (h : Simple v n) (k : Nat) : Ck v n (k + 1) = Ck v n k := by
  have h3 := h.three
  obtain ⟨m, rfl⟩ : ∃ m, n = m + 3 := ⟨n - 3, by omega⟩
  have hper := h.per k
  have hl := local_ (v k) (v (k + 1)) (v (k + 2)) (h.adj k)
  unfold Ck Fk
  have e0 : m + 3 - 2 = m + 1 := rfl
  have e1 : k + (m + 3) - 1 = k + m + 2 := by omega
  have e2 : k + 1 + (m + 3) - 1 = k + (m + 3) := by omega
  rw [e0, e1, e2, hper]
  have hF1 : sm (fun j => cr (v (k + 1 + 1 + j)) (v (k + 1 + 2 + j)) (v (k + 1))) (m + 1)
      = sm (fun j => cr (v (k + 2 + j)) (v (k + 3 + j)) (v (k + 1))) m + cr (v (k + m + 2)) (v k) (v (k + 1)) := by
    rw [sm]
    have a1 : k + 1 + 1 + m = k + m + 2 := by omega
    have a2 : k + 1 + 2 + m = k + (m + 3) := by omega
    rw [a1, a2, hper]
  have hF0 : sm (fun j => cr (v (k + 1 + j)) (v (k + 2 + j)) (v k)) (m + 1)
      = cr (v (k + 1)) (v (k + 2)) (v k) + sm (fun j => cr (v (k + 2 + j)) (v (k + 3 + j)) (v k)) m := by
    rw [sm_head]
    simp only [Nat.add_zero]
    congr 1
    exact sm_congr fun i _ => by
      rw [show k + 1 + (i + 1) = k + 2 + i by omega, show k + 2 + (i + 1) = k + 3 + i by omega]
  have hT : sm (fun j => cr (v (k + 2 + j)) (v (k + 3 + j)) (v (k + 1)) - cr (v (k + 2 + j)) (v (k + 3 + j)) (v k)) m
      = rh (v k) (v (k + 1)) (v (k + m + 2)) - rh (v k) (v (k + 1)) (v (k + 2)) := by
    have ht := sm_tele (fun j => rh (v k) (v (k + 1)) (v (k + 2 + j))) m
    simp only [Nat.add_zero] at ht
    rw [show k + 2 + m = k + m + 2 by omega] at ht
    rw [← ht]
    exact sm_congr fun j hj => by
      have := cell (v k) (v (k + 1)) (v (k + 2 + j)) (v (k + 3 + j)) (by
        have := h.apart k (k + 2 + j) (by omega) (by omega)
        rwa [show k + 2 + j + 1 = k + 3 + j by omega] at this)
      rw [this, show k + 2 + (j + 1) = k + 3 + j by omega]
  rw [sm_sub] at hT
  have hk : k + 1 + 1 = k + 2 := rfl
  have hk3 : k + 1 + 2 = k + 3 := rfl
  simp only [hk, hk3] at *
  rw [hF1, hF0]
  omega
/-! local facts at a corner -/
theorem cr_west {a b p : Pt} (ha : a.1 ≤ p.1) (hb : b.1 ≤ p.1) : cr a b p = 0 := by
  have e : tw a b p = (b.1 - p.1) * (p.2 - a.2) + (a.1 - p.1) * (b.2 - p.2) := by unfold tw; grind
  unfold cr
  split
  · rename_i h
    have := Int.mul_nonneg (show 0 ≤ p.1 - b.1 by omega) (show 0 ≤ p.2 - a.2 by omega)
    have := Int.mul_nonneg (show 0 ≤ p.1 - a.1 by omega) (show 0 ≤ b.2 - p.2 by omega)
    grind
  · split
    · rename_i h
      have := Int.mul_nonneg (show 0 ≤ p.1 - b.1 by omega) (show 0 ≤ a.2 - p.2 by omega)
      have := Int.mul_nonneg (show 0 ≤ p.1 - a.1 by omega) (show 0 ≤ p.2 - b.2 by omega)
      grind
    · rfl
theorem signs (x y : Int) : (0 < x → 0 < y → 0 < x * y) ∧ (x < 0 → y < 0 → 0 < x * y) ∧ (0 < x → y < 0 → x * y < 0) ∧ (x < 0 → 0 < y → x * y < 0) ∧ (y = 0 → x * y = 0) ∧ (x = 0 → x * y = 0) :=
  ⟨Int.mul_pos, Int.mul_pos_of_neg_of_neg, Int.mul_neg_of_pos_of_neg, Int.mul_neg_of_neg_of_pos, fun e => by rw [e, Int.mul_zero], fun e => by rw [e, Int.zero_mul]⟩
/-- the corner's own part -/
def co (a b c : Pt) : Int := rh b c a + cr a b c + up b c

structure Cor (a b c : Pt) (T : Int) : Prop where
  e1 : a.2 = b.2 → a.1 ≠ b.1
  e2 : b.2 = c.2 → b.1 ≠ c.1
  s1 : a.2 = b.2 → ((0 < b.1 - a.1 → 0 < c.2 - b.2 → 0 < T) ∧ (b.1 - a.1 < 0 → c.2 - b.2 < 0 → 0 < T) ∧ (0 < b.1 - a.1 → c.2 - b.2 < 0 → T < 0) ∧ (b.1 - a.1 < 0 → 0 < c.2 - b.2 → T < 0) ∧ (c.2 = b.2 → T = 0))
  s2 : b.2 = c.2 → ((0 < b.1 - c.1 → 0 < b.2 - a.2 → 0 < T) ∧ (b.1 - c.1 < 0 → b.2 - a.2 < 0 → 0 < T) ∧ (0 < b.1 - c.1 → b.2 - a.2 < 0 → T < 0) ∧ (b.1 - c.1 < 0 → 0 < b.2 - a.2 → T < 0) ∧ (b.2 = a.2 → T = 0))
  z : T = 0 → ((a.2 < b.2 ∧ b.2 < c.2) ∨ (c.2 < b.2 ∧ b.2 < a.2) ∨ (a.2 = b.2 ∧ b.2 = c.2 ∧ ((a.1 < b.1 ∧ b.1 < c.1) ∨ (c.1 < b.1 ∧ b.1 < a.1))))
theorem cor_of {a b c : Pt} (h : adj a b c) : Cor a b c (tw a b c) := by
  obtain ⟨h1, h2, h3⟩ := h
  refine ⟨fun e e' => h1 (Prod.ext e' e), fun e e' => h2 (Prod.ext e' e), fun e => ?_, fun e => ?_, h3⟩
  · have : tw a b c = (b.1 - a.1) * (c.2 - b.2) := by unfold tw; rw [e]; grind
    have k := signs (b.1 - a.1) (c.2 - b.2)
    rw [this]
    exact ⟨k.1, k.2.1, k.2.2.1, k.2.2.2.1, fun e => k.2.2.2.2.1 (by omega)⟩
  · have : tw a b c = (b.1 - c.1) * (b.2 - a.2) := by unfold tw; rw [e]; grind
    have k := signs (b.1 - c.1) (b.2 - a.2)
    rw [this]
    exact ⟨k.1, k.2.1, k.2.2.1, k.2.2.2.1, fun e => k.2.2.2.2.1 (by omega)⟩
/-- the corner's part, told by heights and the turn -/
def coT (a b c : Pt) (T : Int) : Int :=
  if a.2 < b.2 then (if b.2 < c.2 then 1 else if 0 < T then 1 else 0)
  else if b.2 < a.2 then (if b.2 < c.2 ∧ 0 < T then 1 else 0)
  else if b.2 < c.2 then 1 else if c.2 < b.2 then (if 0 < T then 1 else 0) else up b c
theorem co_tab {a b c : Pt} (h : adj a b c) : co a b c = coT a b c (tw a b c) := by
  have C := cor_of h
  have hrot := tw_rot a b c
  unfold co rh cr coT up
  rw [hrot]
  generalize tw a b c = T at *
  obtain ⟨e1, e2, s1, s2, z⟩ := C
  clear h hrot
  rcases tri a.2 b.2 with ⟨a1, a2, a3, a4⟩ | ⟨a1, a2, a3, a4⟩ | ⟨a1, a2, a3, a4⟩ <;> rcases tri b.2 c.2 with ⟨b1, b2, b3, b4⟩ | ⟨b1, b2, b3, b4⟩ | ⟨b1, b2, b3, b4⟩ <;> rcases tri a.2 c.2 with ⟨c1, c2, c3, c4⟩ | ⟨c1, c2, c3, c4⟩ | ⟨c1, c2, c3, c4⟩ <;> rcases tri T 0 with ⟨d1, d2, d3, d4⟩ | ⟨d1, d2, d3, d4⟩ | ⟨d1, d2, d3, d4⟩
  all_goals
    try (simp only [a1, a2, a3, a4, b1, b2, b3, b4, c1, c2, c3, c4, d1, d2, and_true, and_false, if_false, if_true, and_self]; done)
  all_goals
    try (exfalso; clear e1 e2 s1 s2 z; omega)
  all_goals
    (try simp only [a1, a2, a3, a4, b1, b2, b3, b4, c1, c2, c3, c4, d1, d2, and_true, and_false, if_false, if_true, and_self]); ((repeat' split) <;> omega)
theorem co_01 {a b c : Pt} (h : adj a b c) : co a b c = 0 ∨ co a b c = 1 := by
  rw [co_tab h]; unfold coT up; (repeat' split) <;> omega
theorem up_01 (a b : Pt) : up a b = 0 ∨ up a b = 1 := by unfold up; (repeat' split) <;> omega
/-- a point on the line behind a corner, strictly between by height -/
theorem tw_part {a b c x : Pt} (h : tw b c x = 0) : tw a b x * (c.2 - b.2) = tw a b c * (x.2 - b.2) := by
  have : tw a b x * (c.2 - b.2) - tw a b c * (x.2 - b.2) = (b.2 - a.2) * tw b c x := by unfold tw; grind
  rw [h] at this; omega
theorem sign_eq {p q r s : Int} (h : p * q = r * s) (hq : (0 < q ∧ 0 < s) ∨ (q < 0 ∧ s < 0)) : (0 < p ↔ 0 < r) ∧ (p < 0 ↔ r < 0) := by
  have k1 := signs p q
  have k2 := signs r s
  generalize p * q = m at *
  generalize r * s = m' at *
  omega
def Mid (b c x : Pt) : Prop := tw b c x = 0 ∧ ((b.2 < x.2 ∧ x.2 < c.2) ∨ (c.2 < x.2 ∧ x.2 < b.2))
theorem up_mid {b c x : Pt} (h : Mid b c x) : up b x = up b c := by
  obtain ⟨_, h⟩ := h
  unfold up; (repeat' split) <;> omega
theorem adj_mid {a b c x : Pt} (h : adj a b c) (hm : Mid b c x) : adj a b x := by
  obtain ⟨h1, h2, h3⟩ := h
  obtain ⟨hx, hm⟩ := hm
  have hs := sign_eq (tw_part (a := a) hx) (by omega)
  refine ⟨h1, fun e => by subst e; omega, fun e => ?_⟩
  have := h3 (by omega)
  omega
theorem co_mid {a b c x : Pt} (h : adj a b c) (hm : Mid b c x) : rh b x a + cr a b x = rh b c a + cr a b c := by
  have e1 := co_tab h
  have e2 := co_tab (adj_mid h hm)
  have hs := sign_eq (tw_part (a := a) hm.1) (by have := hm.2; omega)
  have hu := up_mid hm
  have h2 := hm.2
  have e : coT a b x (tw a b x) = coT a b c (tw a b c) := by
    unfold coT; rw [hu]; generalize tw a b x = T at *; generalize tw a b c = T' at *; generalize up b c = u at *
    (repeat' split) <;> omega
  unfold co at e1 e2
  omega
theorem co_west {a b c p : Pt} (h : adj a b c) (h2 : p.2 = b.2) (h1 : p.1 < b.1) : cr a b p + cr b c p - co a b c = 0 ∨ cr a b p + cr b c p - co a b c = -1 := by
  rw [co_tab h]
  have t1 : tw a b p = (b.1 - p.1) * (b.2 - a.2) := by unfold tw; rw [h2]; grind
  have t2 : tw b c p = (b.1 - p.1) * (c.2 - b.2) := by unfold tw; rw [h2]; grind
  have k1 := signs (b.1 - p.1) (b.2 - a.2)
  have k2 := signs (b.1 - p.1) (c.2 - b.2)
  have hu := up_01 b c
  unfold cr coT
  rw [t1, t2, h2]
  generalize (b.1 - p.1) * (b.2 - a.2) = m1 at *
  generalize (b.1 - p.1) * (c.2 - b.2) = m2 at *
  generalize tw a b c = T at *
  generalize up b c = u at *
  clear h t1 t2
  rcases tri a.2 b.2 with ⟨a1, a2, a3, a4⟩ | ⟨a1, a2, a3, a4⟩ | ⟨a1, a2, a3, a4⟩ <;> rcases tri b.2 c.2 with ⟨b1, b2, b3, b4⟩ | ⟨b1, b2, b3, b4⟩ | ⟨b1, b2, b3, b4⟩
  all_goals ((repeat' split) <;> omega)
theorem co_east {a b c : Pt} (h : adj a b c) (ha : a.1 ≤ b.1) (hc : c.1 ≤ b.1) : (0 < tw a b c → co a b c = 1) ∧ (tw a b c < 0 → co a b c = 0) := by
  rw [co_tab h]
  have t : tw a b c = (b.1 - a.1) * (c.2 - b.2) + (b.1 - c.1) * (b.2 - a.2) := by unfold tw; grind
  have k : ∀ x y : Int, 0 ≤ x → (0 ≤ y → 0 ≤ x * y) ∧ (y ≤ 0 → x * y ≤ 0) := fun x y hx => ⟨Int.mul_nonneg hx, fun hy => by have := Int.mul_nonneg hx (Int.neg_nonneg.2 hy); rw [Int.mul_neg] at this; omega⟩
  have k1 := k (b.1 - a.1) (c.2 - b.2) (by omega)
  have k2 := k (b.1 - c.1) (b.2 - a.2) (by omega)
  have z : a.2 = b.2 → b.2 = c.2 → tw a b c = 0 := fun e e' => by unfold tw; rw [e, e']; grind
  unfold coT
  generalize (b.1 - a.1) * (c.2 - b.2) = m1 at *
  generalize (b.1 - c.1) * (b.2 - a.2) = m2 at *
  generalize tw a b c = T at *
  generalize up b c = u at *
  constructor <;> intro hT <;> (repeat' split) <;> omega
end Go.Proofs.Ytjkfdcjfoliboaa.MJ
