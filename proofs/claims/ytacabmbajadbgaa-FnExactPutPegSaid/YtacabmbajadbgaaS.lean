/- plain mathematics: sums around a polygon -/
import Derived.Test.YtacabmbajadbgaaMs
import Derived.Test.YtacabmbajadbgaaQ
namespace Go.Proofs.Ytacabmbajadbgaa
open Go.ChangeShapes Go.WideShapes Go.ChangeAt Go.RowKit Go.Joins
set_option linter.unusedVariables false
set_option linter.unusedSimpArgs false
set_option maxRecDepth 4000
def cr (p q : Int × Int) : Int := p.1 * q.2 - q.1 * p.2
/-- f at corner 0, .., at corner k - 1, together -/
def sumTo (f : Nat → Int) : Nat → Int
  | 0 => 0
  | k + 1 => sumTo f k + f k
theorem sumTo_bd {f : Nat → Int} {m : Int} : ∀ (k : Nat), (∀ i, i < k → -m ≤ f i ∧ f i ≤ m) → -(m * k) ≤ sumTo f k ∧ sumTo f k ≤ m * k
  | 0, _ => by simp [sumTo]
  | k + 1, h => by
    have ih := sumTo_bd k (fun i hi => h i (by omega))
    have hk := h k (by omega)
    have e : m * ((k + 1 : Nat) : Int) = m * (k : Int) + m := by rw [Int.natCast_add, Int.mul_add]; simp
    rw [e]
    unfold sumTo
    omega
theorem sumTo_same {f g : Nat → Int} : ∀ (k : Nat), (∀ i, i < k → f i = g i) → sumTo f k = sumTo g k
  | 0, _ => rfl
  | k + 1, h => by unfold sumTo; rw [sumTo_same k (fun i hi => h i (by omega)), h k (by omega)]
def Sh (l : List (Int × Int)) (k : Nat) : Int := sumTo (fun i => cr (vx l i) (vx l (i + 1))) k
/-- twice the area -/
def areaN (l : List (Int × Int)) : Int := Sh l l.length
/-- the triangles from corner 0 to those below corner i, together -/
def fanTo (l : List (Int × Int)) (i : Nat) : Int := Sh l (i - 1) + cr (vx l (i - 1)) (vx l 0)
theorem fan_two (l : List (Int × Int)) : fanTo l 2 = 0 := by
  unfold fanTo Sh sumTo sumTo cr; simp; omega
theorem fan_step (l : List (Int × Int)) (i : Nat) (h : 2 ≤ i) : fanTo l (i + 1) = fanTo l i + twP (vx l 0) (vx l (i - 1)) (vx l i) := by
  obtain ⟨j, rfl⟩ : ∃ j, i = j + 1 := ⟨i - 1, by omega⟩
  have e1 : j + 1 + 1 - 1 = j + 1 := by omega
  have e2 : j + 1 - 1 = j := by omega
  unfold fanTo
  rw [e1, e2]
  have : Sh l (j + 1) = Sh l j + cr (vx l j) (vx l (j + 1)) := rfl
  rw [this]
  unfold twP twI cr
  grind
theorem fan_all (l : List (Int × Int)) (h : 3 ≤ l.length) : fanTo l l.length = areaN l := by
  unfold areaN fanTo
  obtain ⟨j, hj⟩ : ∃ j, l.length = j + 1 := ⟨l.length - 1, by omega⟩
  rw [hj]
  have e : j + 1 - 1 = j := by omega
  rw [e]
  have h1 : Sh l (j + 1) = Sh l j + cr (vx l j) (vx l (j + 1)) := rfl
  have h2 : vx l (j + 1) = vx l 0 := by rw [← hj]; unfold vx; simp
  rw [h1, h2]
theorem cr_bd {p q : Int × Int} (hp : isPg p = true) (hq : isPg q = true) : -3200 ≤ cr p q ∧ cr p q ≤ 3200 := by
  unfold isPg isPegB at hp hq
  simp only [Bool.and_eq_true, decide_eq_true_eq] at hp hq
  have h1 := mul_bd (x := p.1) (y := q.2) (m := 40) (n := 40) (by omega) (by omega) (by omega) (by omega)
  have h2 := mul_bd (x := q.1) (y := p.2) (m := 40) (n := 40) (by omega) (by omega) (by omega) (by omega)
  unfold cr
  omega
theorem vx_pg {l : List (Int × Int)} (h : ∀ i, i < l.length → isPg (vx l i) = true) (h0 : 0 < l.length) (i : Nat) : isPg (vx l i) = true := by
  rw [← vx_per]; exact h _ (Nat.mod_lt _ h0)
theorem good_pos {l : List (Int × Int)} (h : Good l) : 0 < l.length := by have := h.few.1; omega
theorem sh_bd {l : List (Int × Int)} (h : ∀ i, i < l.length → isPg (vx l i) = true) (h0 : 0 < l.length) (k : Nat) : -(3200 * (k : Int)) ≤ Sh l k ∧ Sh l k ≤ 3200 * (k : Int) :=
  sumTo_bd k fun i _ => cr_bd (vx_pg h h0 i) (vx_pg h h0 (i + 1))
theorem fan_bdW {l : List (Int × Int)} (h : ∀ i, i < l.length → isPg (vx l i) = true) (h0 : 0 < l.length) (i : Nat) (hi : i ≤ 60) : -400000 ≤ fanTo l i ∧ fanTo l i ≤ 400000 := by
  have h1 := sh_bd h h0 (i - 1)
  have h2 := cr_bd (vx_pg h h0 (i - 1)) (vx_pg h h0 0)
  unfold fanTo
  omega
theorem fan_bd {l : List (Int × Int)} (h : ∀ i, i < l.length → isPg (vx l i) = true) (h0 : 0 < l.length) (i : Nat) (hi : i ≤ 10) : -40000 ≤ fanTo l i ∧ fanTo l i ≤ 40000 := by
  have h1 := sh_bd h h0 (i - 1)
  have h2 := cr_bd (vx_pg h h0 (i - 1)) (vx_pg h h0 0)
  unfold fanTo
  omega
/-- how many steps the lines have together -/
def Rn (l : List (Int × Int)) (k : Nat) : Int := sumTo (fun i => stepN (vx l i).1 (vx l i).2 (vx l (i + 1)).1 (vx l (i + 1)).2) k
def onN (l : List (Int × Int)) : Int := Rn l l.length
theorem rn_bd {l : List (Int × Int)} (h : ∀ i, i < l.length → isPg (vx l i) = true) (h0 : 0 < l.length) (k : Nat) : -(160 * (k : Int)) ≤ Rn l k ∧ Rn l k ≤ 160 * (k : Int) :=
  sumTo_bd k fun i _ => by
    have := stepN_bd (a1 := (vx l i).1) (a2 := (vx l i).2) (b1 := (vx l (i + 1)).1) (b2 := (vx l (i + 1)).2) (vx_pg h h0 i) (vx_pg h h0 (i + 1))
    omega
/-- the told number of points inside -/
def insN (l : List (Int × Int)) : Int := ((areaN l).natAbs + 2 - onN l).tdiv 2
end Go.Proofs.Ytacabmbajadbgaa
