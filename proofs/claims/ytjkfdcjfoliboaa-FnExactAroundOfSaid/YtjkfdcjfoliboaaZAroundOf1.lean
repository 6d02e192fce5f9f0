/- joined: A B C D L E F R Rt Tb01 Tbq Rz Ch Rn Ro G H I Ms -/
import Derived.Test.YtjkfdcjfoliboaaRows
import Derived.WalkKit
import Derived.ProofKit
import Derived.OpenShut
import Derived.Outline
import Derived.Lib.SmallJoins
import Derived.Below
import Derived.Carry
import Derived.Lib.Hide
import Derived.OrdersHeld
import Derived.StillTail
import Derived.BigRegion
/- contracts of the small functions over pegs -/
namespace Go.Proofs.Ytjkfdcjfoliboaa
open Go.ChangeShapes Go.WideShapes Go.ChangeAt Go.RowKit Go.Joins
set_option linter.unusedVariables false

theorem l1In_any (n lo hi : Int) (w : World) :
    Calls Try.prog 61 #[.int .i64 n, .int .i64 lo, .int .i64 hi] w fun e w' => e = .returned (.bool (decide (lo ≤ n) && decide (n ≤ hi))) ∧ w = w' := by
  by_cases h1 : lo ≤ n <;> by_cases h2 : n ≤ hi
  all_goals
    go_enter Try.func61, Try.ntmps61
    go_wp2
    go_ret
    exact ⟨by simp [h1, h2], rfl⟩
theorem isOfSize_any (n m : Int) (w : World) (hm : 0 ≤ m) (hm' : m ≤ 1000) :
    Calls Try.prog 70 #[.int .i64 n, .int .i64 m] w fun e w' => e = .returned (.bool (decide (-m ≤ n) && decide (n ≤ m))) ∧ w = w' := by
  by_cases h1 : -m ≤ n <;> by_cases h2 : n ≤ m
  all_goals
    go_enter Try.func70, Try.ntmps70
    go_wp2
    go_ret
    exact ⟨by simp [h1, h2], rfl⟩
end Go.Proofs.Ytjkfdcjfoliboaa
/- contracts of the small functions over pegs -/
namespace Go.Proofs.Ytjkfdcjfoliboaa
open Go.ChangeShapes Go.WideShapes Go.ChangeAt Go.RowKit Go.Joins
set_option linter.unusedVariables false
theorem bcell {W w1 : World} (hb : Below W.heap.size W w1) : (∀ b o, b < W.heap.size → w1.cell? ⟨b, o, none⟩ = W.cell? ⟨b, o, none⟩) ∧ (∀ b o, b < W.heap.size → w1.frozen? ⟨b, o, none⟩ = W.frozen? ⟨b, o, none⟩) :=
  ⟨fun b o h => hb.cell (p := ⟨b, o, none⟩) h, fun b o h => hb.frozen (p := ⟨b, o, none⟩) h⟩
/-- a peg's two numbers are of size 40 at most -/
def isPegB (x y : Int) : Bool := decide (-40 ≤ x) && decide (x ≤ 40) && (decide (-40 ≤ y) && decide (y ≤ 40))
theorem pgIs_any (x y : Int) (w : World) :
    Calls Try.prog 42 #[.agg #[.int .i64 x, .int .i64 y]] w fun e w' => e = .returned (.bool (isPegB x y)) ∧ Below w.heap.size w w' := by
  by_cases h1 : (decide (-40 ≤ x) && decide (x ≤ 40)) = true
  all_goals
    go_enter Try.func42, Try.ntmps42
    go_wp2_with (go_at_call 61; refine (l1In_any _ _ _ _).mono ?_; rintro e w' ⟨rfl, rfl⟩)
    go_ret
    exact ⟨by simp [isPegB, h1], by repeat (first | exact Below.refl _ _ | apply Below.drew | (apply Below.alloc; rotate_left; simp))⟩
end Go.Proofs.Ytjkfdcjfoliboaa
/- contracts of the small functions over pegs: turns, points on lines -/
namespace Go.Proofs.Ytjkfdcjfoliboaa
open Go.ChangeShapes Go.WideShapes Go.ChangeAt Go.RowKit Go.Joins
set_option linter.unusedVariables false
set_option linter.unusedSimpArgs false
set_option maxRecDepth 4000
theorem mul_bd {x y m n : Int} (h1 : -m ≤ x) (h2 : x ≤ m) (h3 : -n ≤ y) (h4 : y ≤ n) : -(m * n) ≤ x * y ∧ x * y ≤ m * n := by
  have hm : 0 ≤ m := by omega
  have hn : 0 ≤ n := by omega
  have a1 := Int.mul_nonneg (show 0 ≤ m - x by omega) (show 0 ≤ n - y by omega)
  have a2 := Int.mul_nonneg (show 0 ≤ m + x by omega) (show 0 ≤ n + y by omega)
  have a3 := Int.mul_nonneg (show 0 ≤ m - x by omega) (show 0 ≤ n + y by omega)
  have a4 := Int.mul_nonneg (show 0 ≤ m + x by omega) (show 0 ≤ n - y by omega)
  constructor <;> grind
/-- both numbers of a point are of size 100000 at most -/
def Sz (x y : Int) : Prop := -100000 ≤ x ∧ x ≤ 100000 ∧ -100000 ≤ y ∧ y ≤ 100000
theorem prod_bd {a b c d : Int} (ha : -100000 ≤ a ∧ a ≤ 100000) (hb : -100000 ≤ b ∧ b ≤ 100000) (hc : -100000 ≤ c ∧ c ≤ 100000) (hd : -100000 ≤ d ∧ d ≤ 100000) :
    -40000000000 ≤ (a - b) * (c - d) ∧ (a - b) * (c - d) ≤ 40000000000 :=
  mul_bd (m := 200000) (n := 200000) (by omega) (by omega) (by omega) (by omega)
/-- twice the area of a triangle, greater than 0 to the left -/
def twI (a1 a2 b1 b2 c1 c2 : Int) : Int := (b1 - a1) * (c2 - a2) - (b2 - a2) * (c1 - a1)
theorem ret_int {k : IntKind} {a b : Int} (h : a = b) : Ending.returned (.int k a) = .returned (.int k b) := by rw [h]
theorem ret_bool {a b : Bool} (h : a = b) : Ending.returned (.bool a) = .returned (.bool b) := by rw [h]
theorem pgTurn_any (a1 a2 b1 b2 c1 c2 : Int) (w : World) (ha : Sz a1 a2) (hb : Sz b1 b2) (hc : Sz c1 c2) :
    Calls Try.prog 62 #[.agg #[.int .i64 a1, .int .i64 a2], .agg #[.int .i64 b1, .int .i64 b2], .agg #[.int .i64 c1, .int .i64 c2]] w fun e w' => e = .returned (.int .i64 (twI a1 a2 b1 b2 c1 c2)) ∧ Below w.heap.size w w' := by
  obtain ⟨x1, x2, x3, x4⟩ := ha
  obtain ⟨x5, x6, x7, x8⟩ := hb
  obtain ⟨x9, x10, x11, x12⟩ := hc
  obtain ⟨p1, p2⟩ := prod_bd (a := b1) (b := a1) (c := c2) (d := a2) (by omega) (by omega) (by omega) (by omega)
  obtain ⟨p3, p4⟩ := prod_bd (a := b2) (b := a2) (c := c1) (d := a1) (by omega) (by omega) (by omega) (by omega)
  go_enter Try.func62, Try.ntmps62
  go_wp2
  go_ret
  exact ⟨ret_int (by unfold twI; omega), (by repeat (first | exact Below.refl _ _ | assumption | apply Below.drew | refine Below.alloc ?_ (by simp <;> omega) _))⟩
theorem twiceThree_any (a1 a2 b1 b2 c1 c2 : Int) (w : World) (ha : Sz a1 a2) (hb : Sz b1 b2) (hc : Sz c1 c2) :
    Calls Try.prog 68 #[.agg #[.int .i64 a1, .int .i64 a2], .agg #[.int .i64 b1, .int .i64 b2], .agg #[.int .i64 c1, .int .i64 c2]] w fun e w' => e = .returned (.int .i64 (twI a1 a2 b1 b2 c1 c2)) ∧ Below w.heap.size w w' := by
  obtain ⟨x1, x2, x3, x4⟩ := ha
  obtain ⟨x5, x6, x7, x8⟩ := hb
  obtain ⟨x9, x10, x11, x12⟩ := hc
  obtain ⟨p1, p2⟩ := prod_bd (a := b1) (b := a1) (c := c2) (d := a2) (by omega) (by omega) (by omega) (by omega)
  obtain ⟨p3, p4⟩ := prod_bd (a := c1) (b := a1) (c := b2) (d := a2) (by omega) (by omega) (by omega) (by omega)
  go_enter Try.func68, Try.ntmps68
  go_wp2
  go_ret
  exact ⟨ret_int (by unfold twI; rw [Int.mul_comm (c1 - a1)]), (by repeat (first | exact Below.refl _ _ | assumption | apply Below.drew | refine Below.alloc ?_ (by simp <;> omega) _))⟩
end Go.Proofs.Ytjkfdcjfoliboaa
/- contracts: a point of the laws' package made one of the program's; IsPeg on both sides -/
namespace Go.Proofs.Ytjkfdcjfoliboaa
open Go.ChangeShapes Go.WideShapes Go.ChangeAt Go.RowKit Go.Joins
set_option linter.unusedVariables false
set_option linter.unusedSimpArgs false
set_option maxRecDepth 4000
theorem toPeg_any (a1 a2 : Int) (w : World) :
    Calls Try.prog 17 #[.agg #[.int .i64 a1, .int .i64 a2]] w fun e w' => e = .returned (.agg #[.int .i64 a1, .int .i64 a2]) ∧ Below w.heap.size w w' := by
  go_enter Try.func17, Try.ntmps17
  go_wp2
  exact bodyPost_ret (v := .agg #[.int .i64 a1, .int .i64 a2]) (by simp [results, Try.results17, go_sem]) rfl ⟨rfl, (by repeat (first | exact Below.refl _ _ | assumption | apply Below.drew | refine Below.alloc ?_ (by simp <;> omega) _))⟩
theorem implIsPeg_any (x1 x2 : Int) (w : World) :
    Calls Try.prog 44 #[.agg #[.int .i64 x1, .int .i64 x2]] w fun e w' => e = .returned (.bool (isPegB x1 x2)) ∧ Below w.heap.size w w' := by
  by_cases h1 : (decide (-40 ≤ x1) && decide (x1 ≤ 40)) = true
  all_goals
    go_enter Try.func44, Try.ntmps44
    go_wp2_with (go_at_call 70; refine (isOfSize_any _ _ _ (by omega) (by omega)).mono ?_; rintro e w' ⟨rfl, rfl⟩)
    go_ret
    exact ⟨by simp [isPegB, h1], (by repeat (first | exact Below.refl _ _ | assumption | apply Below.drew | refine Below.alloc ?_ (by simp <;> omega) _))⟩
end Go.Proofs.Ytjkfdcjfoliboaa
/- the last step of each law: it returned true, and nothing that was there has turned: so the arguments read as they did -/
namespace Go.Proofs.Ytjkfdcjfoliboaa
open Go.ChangeShapes Go.WideShapes Go.ChangeAt Go.RowKit Go.Joins
set_option linter.unusedVariables false
set_option linter.unusedSimpArgs false
set_option maxRecDepth 4000
theorem own : ownKnob Try.prog.godebug = none := by kernel_rfl
theorem laidOut : laidOutB Try.prog = true := by kernel_rfl
section
variable {H : Type} {enc : TypeId × Value → H}
theorem trods_stay {P : Program} (hl : laidOutB P = true) {W W' : World} (hb : Below W.heap.size W W') (ts : List TypeId) : ∀ (vs : List Value) (ds : List (DataW H)) (ps : List MemPlace), (∀ t ∈ ts, P.readableRec t = true ∧ t < P.types.size) →
    DataW.TrodAll enc P W 0 (fun _ => true) true ts vs ds ps → (∀ x ∈ ps, x.block < W.heap.size) →
    DataW.TrodAll enc P W' 0 (fun b => decide (b < W.heap.size)) true ts vs ds ps := by
  induction ts with
  | nil =>
    intro vs ds ps _ h _
    cases vs with
    | nil => cases ds with
      | nil => exact h
      | cons d ds => exact h.elim
    | cons v vs => exact h.elim
  | cons t ts ih =>
    intro vs ds ps ht h hl'
    cases vs with
    | nil => exact h.elim
    | cons v vs => cases ds with
      | nil => exact h.elim
      | cons d ds =>
        obtain ⟨p, q, h1, h2, rfl⟩ := h
        have hf := ht t (List.mem_cons_self ..)
        exact ⟨p, q, Below.trod hl hf.1 hf.2 h1 hb (fun x hx => hl' x (List.mem_append.2 (Or.inl hx))),
          ih vs ds q (fun t' h' => ht t' (List.mem_cons_of_mem _ h')) h2 (fun x hx => hl' x (List.mem_append.2 (Or.inr hx))), rfl⟩
theorem law_done {f : Func} {s : ChangeSpec} {W W' : World} {args : Array Value} {ds gs : List (DataW H)} {before : List MemPlace}
    (hW : DataW.Whole enc Try.prog f.params.toList s.vars false W args.toList ds gs before) (hv : s.vars = []) (hrt : f.resultTypes = #[4]) (hp : ∀ t ∈ f.params.toList, Try.prog.readableRec t = true ∧ t < Try.prog.types.size)
    (hs : s.fn H ds = { results := [.lit (.bool true)], args := ds }) (hb : Below W.heap.size W W') :
    s.post enc Try.prog f false true false false W args (.bool true) W' := by
  have hlt := hW.lt
  have hW0 := hW
  obtain ⟨p, q, hA, hV, rfl, _, _⟩ := hW0
  rw [hv] at hV
  obtain ⟨rfl, rfl⟩ := trodVars_none hV
  simp only [List.append_nil] at hW hlt
  refine ⟨ds, [], p, [], p, [], hW, ?_, ?_, ?_, hb.frame _, fun h => by cases h⟩
  · rw [List.append_nil, hs, hrt]
    exact trodAll_mk1 (shut_bool Try.underlying4 true)
  · rw [List.append_nil, hs]
    exact trods_stay laidOut hb _ _ _ _ hp hA hlt
  · rw [List.append_nil, hs, hv]
    exact rfl
end
theorem fine31 : Try.prog.readableRec 31 = true ∧ 31 < Try.prog.types.size := ⟨by kernel_rfl, of_decide_eq_true (by kernel_rfl)⟩
theorem cells31 : Try.prog.cellsOf 31 = 2 := by kernel_rfl
end Go.Proofs.Ytjkfdcjfoliboaa
/- contracts: lines between pegs, points on them, lines that meet -/
namespace Go.Proofs.Ytjkfdcjfoliboaa
open Go.ChangeShapes Go.WideShapes Go.ChangeAt Go.RowKit Go.Joins
set_option linter.unusedVariables false
set_option linter.unusedSimpArgs false
set_option maxRecDepth 4000
/-- the sign of a number -/
def sgn (n : Int) : Int := if 0 < n then 1 else if n < 0 then -1 else 0
/-- a point on the line between two -/
def onB (a1 a2 b1 b2 p1 p2 : Int) : Bool := decide (twI a1 a2 b1 b2 p1 p2 = 0) && decide ((a1 - p1) * (b1 - p1) ≤ 0) && decide ((a2 - p2) * (b2 - p2) ≤ 0)
theorem pgOn_any (a1 a2 b1 b2 p1 p2 : Int) (w : World) (ha : Sz a1 a2) (hb : Sz b1 b2) (hp : Sz p1 p2) :
    Calls Try.prog 69 #[.agg #[.int .i64 a1, .int .i64 a2], .agg #[.int .i64 b1, .int .i64 b2], .agg #[.int .i64 p1, .int .i64 p2]] w fun e w' => e = .returned (.bool (onB a1 a2 b1 b2 p1 p2)) ∧ Below w.heap.size w w' := by
  have q1 := mul_bd (x := a1 - p1) (y := b1 - p1) (m := 200000) (n := 200000) (by unfold Sz at *; omega) (by unfold Sz at *; omega) (by unfold Sz at *; omega) (by unfold Sz at *; omega)
  have q2 := mul_bd (x := a2 - p2) (y := b2 - p2) (m := 200000) (n := 200000) (by unfold Sz at *; omega) (by unfold Sz at *; omega) (by unfold Sz at *; omega) (by unfold Sz at *; omega)
  have ct := fun W => pgTurn_any a1 a2 b1 b2 p1 p2 W ha hb hp
  obtain ⟨x1, x2, x3, x4⟩ := ha
  obtain ⟨x5, x6, x7, x8⟩ := hb
  obtain ⟨x9, x10, x11, x12⟩ := hp
  obtain ⟨q3, q4⟩ := q1
  obtain ⟨q5, q6⟩ := q2
  by_cases h1 : twI a1 a2 b1 b2 p1 p2 = 0
  · by_cases h2 : (a1 - p1) * (b1 - p1) ≤ 0
    · by_cases h3 : (a2 - p2) * (b2 - p2) ≤ 0
      all_goals
        have CT := Lib.hid ct
        clear ct
        go_enter Try.func69, Try.ntmps69
        go_wp2_with fail
        refine (CT.out _).mono ?_; rintro e w1 ⟨rfl, hb1⟩
        obtain ⟨hc1, hf1⟩ := bcell hb1
        have z1_0 : w.heap.size < w1.heap.size := by (have := hb1.size; simp at this; omega)
        have z1_1 : w.heap.size + 1 < w1.heap.size := by (have := hb1.size; simp at this; omega)
        have z1_2 : w.heap.size + 2 < w1.heap.size := by (have := hb1.size; simp at this; omega)
        have B1 : Below w.heap.size w w1 := (Below.alloc (Below.alloc (Below.alloc (Below.refl _ _) (by simp <;> omega) _) (by simp <;> omega) _) (by simp <;> omega) _).trans (hb1.mono (by simp <;> omega))
        go_wp2_with fail
        go_ret
        exact ⟨ret_bool (by simp [onB, h1, h2, h3]), B1⟩
    · have CT := Lib.hid ct
      clear ct
      go_enter Try.func69, Try.ntmps69
      go_wp2_with fail
      refine (CT.out _).mono ?_; rintro e w1 ⟨rfl, hb1⟩
      obtain ⟨hc1, hf1⟩ := bcell hb1
      have z1_0 : w.heap.size < w1.heap.size := by (have := hb1.size; simp at this; omega)
      have z1_1 : w.heap.size + 1 < w1.heap.size := by (have := hb1.size; simp at this; omega)
      have z1_2 : w.heap.size + 2 < w1.heap.size := by (have := hb1.size; simp at this; omega)
      have B1 : Below w.heap.size w w1 := (Below.alloc (Below.alloc (Below.alloc (Below.refl _ _) (by simp <;> omega) _) (by simp <;> omega) _) (by simp <;> omega) _).trans (hb1.mono (by simp <;> omega))
      go_wp2_with fail
      go_ret
      exact ⟨ret_bool (by simp [onB, h1] <;> omega), B1⟩
  · have CT := Lib.hid ct
    clear ct
    go_enter Try.func69, Try.ntmps69
    go_wp2_with fail
    refine (CT.out _).mono ?_; rintro e w1 ⟨rfl, hb1⟩
    obtain ⟨hc1, hf1⟩ := bcell hb1
    have z1_0 : w.heap.size < w1.heap.size := by (have := hb1.size; simp at this; omega)
    have z1_1 : w.heap.size + 1 < w1.heap.size := by (have := hb1.size; simp at this; omega)
    have z1_2 : w.heap.size + 2 < w1.heap.size := by (have := hb1.size; simp at this; omega)
    have B1 : Below w.heap.size w w1 := (Below.alloc (Below.alloc (Below.alloc (Below.refl _ _) (by simp <;> omega) _) (by simp <;> omega) _) (by simp <;> omega) _).trans (hb1.mono (by simp <;> omega))
    go_wp2_with fail
    go_ret
    exact ⟨ret_bool (by simp [onB, h1]), B1⟩
end Go.Proofs.Ytjkfdcjfoliboaa
/- contracts: points on lines and lines that meet, on both sides -/
namespace Go.Proofs.Ytjkfdcjfoliboaa
open Go.ChangeShapes Go.WideShapes Go.ChangeAt Go.RowKit Go.Joins
set_option linter.unusedVariables false
set_option linter.unusedSimpArgs false
set_option maxRecDepth 4000
theorem between_iff (a b p : Int) : (a - p) * (b - p) ≤ 0 ↔ (min a b ≤ p ∧ p ≤ max a b) := by
  constructor
  · intro h
    rcases Int.lt_trichotomy a p with h1 | h1 | h1 <;> rcases Int.lt_trichotomy b p with h2 | h2 | h2
    all_goals first
      | omega
      | (have := Int.mul_pos_of_neg_of_neg (show a - p < 0 by omega) (show b - p < 0 by omega); omega)
      | (have := Int.mul_pos (show 0 < a - p by omega) (show 0 < b - p by omega); omega)
  · rintro ⟨h1, h2⟩
    rcases Int.le_total a b with h | h
    · have := Int.mul_nonneg (show 0 ≤ p - a by omega) (show 0 ≤ b - p by omega)
      have e : (p - a) * (b - p) = -((a - p) * (b - p)) := by rw [← Int.neg_mul]; congr 1; omega
      omega
    · have := Int.mul_nonneg (show 0 ≤ a - p by omega) (show 0 ≤ p - b by omega)
      have e : (a - p) * (p - b) = -((a - p) * (b - p)) := by rw [← Int.mul_neg]; congr 1; omega
      omega
theorem onB_eq (a1 a2 b1 b2 p1 p2 : Int) : onB a1 a2 b1 b2 p1 p2 = (decide (twI a1 a2 b1 b2 p1 p2 = 0) && decide (min a1 b1 ≤ p1 ∧ p1 ≤ max a1 b1) && decide (min a2 b2 ≤ p2 ∧ p2 ≤ max a2 b2)) := by
  unfold onB; simp only [between_iff]
theorem isBetween_any (p1 p2 a1 a2 b1 b2 : Int) (w : World) (hp : Sz p1 p2) (ha : Sz a1 a2) (hb : Sz b1 b2) :
    Calls Try.prog 71 #[.agg #[.int .i64 p1, .int .i64 p2], .agg #[.int .i64 a1, .int .i64 a2], .agg #[.int .i64 b1, .int .i64 b2]] w fun e w' => e = .returned (.bool (onB a1 a2 b1 b2 p1 p2)) ∧ Below w.heap.size w w' := by
  have CT := Lib.hid (fun W => twiceThree_any a1 a2 b1 b2 p1 p2 W ha hb hp)
  by_cases h1 : twI a1 a2 b1 b2 p1 p2 = 0
  · go_enter Try.func71, Try.ntmps71
    go_wp2_with fail
    refine (CT.out _).mono ?_; rintro e w1 ⟨rfl, hb1⟩
    obtain ⟨hc1, hf1⟩ := bcell hb1
    have z1_0 : w.heap.size < w1.heap.size := by (have := hb1.size; simp at this; omega)
    have z1_1 : w.heap.size + 1 < w1.heap.size := by (have := hb1.size; simp at this; omega)
    have z1_2 : w.heap.size + 2 < w1.heap.size := by (have := hb1.size; simp at this; omega)
    have B1 : Below w.heap.size w w1 := (Below.alloc (Below.alloc (Below.alloc (Below.refl _ _) (by simp <;> omega) _) (by simp <;> omega) _) (by simp <;> omega) _).trans (hb1.mono (by simp <;> omega))
    go_wp2_with fail
    all_goals
      go_ret
      exact ⟨ret_bool (by rw [onB_eq, Bool.eq_iff_iff]; simp [h1] <;> omega), B1⟩
  · go_enter Try.func71, Try.ntmps71
    go_wp2_with fail
    refine (CT.out _).mono ?_; rintro e w1 ⟨rfl, hb1⟩
    obtain ⟨hc1, hf1⟩ := bcell hb1
    have z1_0 : w.heap.size < w1.heap.size := by (have := hb1.size; simp at this; omega)
    have z1_1 : w.heap.size + 1 < w1.heap.size := by (have := hb1.size; simp at this; omega)
    have z1_2 : w.heap.size + 2 < w1.heap.size := by (have := hb1.size; simp at this; omega)
    have B1 : Below w.heap.size w w1 := (Below.alloc (Below.alloc (Below.alloc (Below.refl _ _) (by simp <;> omega) _) (by simp <;> omega) _) (by simp <;> omega) _).trans (hb1.mono (by simp <;> omega))
    go_wp2_with fail
    go_ret
    exact ⟨ret_bool (by simp [onB, h1]), B1⟩
/-- two lines have a point in common -/
def meetB (a1 a2 b1 b2 c1 c2 d1 d2 : Int) : Bool :=
  onB a1 a2 b1 b2 c1 c2 || onB a1 a2 b1 b2 d1 d2 || onB c1 c2 d1 d2 a1 a2 || onB c1 c2 d1 d2 b1 b2 ||
    decide (twI a1 a2 b1 b2 c1 c2 * twI a1 a2 b1 b2 d1 d2 < 0 ∧ twI c1 c2 d1 d2 a1 a2 * twI c1 c2 d1 d2 b1 b2 < 0)
theorem sgn_mul (m n : Int) : sgn m * sgn n < 0 ↔ m * n < 0 := by
  unfold sgn
  rcases Int.lt_trichotomy m 0 with h1 | h1 | h1 <;> rcases Int.lt_trichotomy n 0 with h2 | h2 | h2
  · have := Int.mul_pos_of_neg_of_neg h1 h2
    rw [if_neg (by omega), if_pos h1, if_neg (by omega), if_pos h2]; omega
  · subst h2; simp
  · have := Int.mul_neg_of_neg_of_pos h1 h2
    rw [if_neg (by omega), if_pos h1, if_pos h2]; omega
  · subst h1; simp
  · subst h1; simp
  · subst h1; simp
  · have := Int.mul_neg_of_pos_of_neg h1 h2
    rw [if_pos h1, if_neg (by omega), if_pos h2]; omega
  · subst h2; simp
  · have := Int.mul_pos h1 h2
    rw [if_pos h1, if_pos h2]; omega
theorem sgn_01 (m : Int) : sgn m = -1 ∨ sgn m = 0 ∨ sgn m = 1 := by unfold sgn; split; omega; split <;> omega
theorem twI_bd {a1 a2 b1 b2 c1 c2 : Int} (ha : Sz a1 a2) (hb : Sz b1 b2) (hc : Sz c1 c2) : -80000000000 ≤ twI a1 a2 b1 b2 c1 c2 ∧ twI a1 a2 b1 b2 c1 c2 ≤ 80000000000 := by
  unfold Sz at *
  have h1 := prod_bd (a := b1) (b := a1) (c := c2) (d := a2) (by omega) (by omega) (by omega) (by omega)
  have h2 := prod_bd (a := b2) (b := a2) (c := c1) (d := a1) (by omega) (by omega) (by omega) (by omega)
  unfold twI; omega
end Go.Proofs.Ytjkfdcjfoliboaa
/- A statement that leaves its order open, all of whose operations come to one value in every world that meets S and lead to such a world again: one walk through it, in the order of the text, serves for every order. -/
namespace Go.Proofs.Ytjkfdcjfoliboaa
open Go.ChangeShapes Go.WideShapes Go.ChangeAt Go.RowKit Go.Joins
set_option linter.unusedVariables false
set_option linter.unusedSimpArgs false
set_option maxRecDepth 4000
section
variable {P : Program} {ops : Array Oper} {Q : Exit → Act → World → Prop} {md : Region.Mode} {S : World → Prop}
/-- what an operation's run comes to: the value v, in a world that meets S -/
def Comes (P : Program) (S : World → Prop) (v : Value) : Result Next → Prop
  | .ok (.value u) w' => u = v ∧ S w'
  | .ok .skip w' => v = undef ∧ S w'
  | .ok (.enter f args) w' => Calls P f args w' fun e w'' => e = .returned v ∧ S w''
  | _ => False
theorem comes_value {u v : Value} {w' : World} : Comes P S v (.ok (.value u) w') = (u = v ∧ S w') := rfl
theorem comes_skip {v : Value} {w' : World} : Comes P S v (.ok .skip w') = (v = undef ∧ S w') := rfl
theorem comes_enter {v : Value} {f : FuncId} {args : Array Value} {w' : World} : Comes P S v (.ok (.enter f args) w') = Calls P f args w' (fun e w'' => e = .returned v ∧ S w'') := rfl
theorem comes_v {u : Value} {w' : World} (h : S w') : Comes P S u (.ok (.value u) w') := ⟨rfl, h⟩
theorem comes_e {v : Value} {f : FuncId} {args : Array Value} {w' : World} (h : Calls P f args w' fun e w'' => e = .returned v ∧ S w'') : Comes P S v (.ok (.enter f args) w') := h
theorem comes_c {v : Value} {f : FuncId} {args : Array Value} {w' : World} (h : Calls P f args w' fun e w'' => e = .returned v ∧ Below w'.heap.size w' w'') (hk : ∀ w'', Below w'.heap.size w' w'' → S w'') : Comes P S v (.ok (.enter f args) w') :=
  Calls.mono h fun e w'' he => ⟨he.1, hk w'' he.2⟩
theorem comes_q {v : Value} {f : FuncId} {args : Array Value} {w' : World} (h : Calls P f args w' fun e w'' => e = .returned v ∧ w' = w'') (hs : S w') : Comes P S v (.ok (.enter f args) w') :=
  Calls.mono h fun e w'' he => ⟨he.1, he.2 ▸ hs⟩
def Steady (P : Program) (ops : Array Oper) (S : World → Prop) (o : Oper) (v : Value) (a : Act) : Prop :=
  (Region.wanted o (yielded ops a.tmps) = true ∧ ∀ w, S w → Comes P S v ((execOp a.eval o).run P w)) ∨
  (Region.wanted o (yielded ops a.tmps) = false ∧ v = undef)
theorem steady_same {o : Oper} {v : Value} {a a' : Act} (hy : Steady P ops S o v a) (he : execOp a'.eval o = execOp a.eval o)
    (hw : Region.wanted o (yielded ops a'.tmps) = Region.wanted o (yielded ops a.tmps)) : Steady P ops S o v a' := by
  unfold Steady at *; rw [he, hw]; exact hy
theorem steady_op {i : Nat} {o : Oper} {v : Value} {a : Act} (hi : ops[i]? = some o) (hy : Steady P ops S o v a) {K : Act → World → Prop} {w : World} (hS : S w)
    (h : ∀ w', S w' → K (a.put o.dst v) w') : wpOp P ops Q i K a w := by
  unfold wpOp
  simp only [hi]
  rcases hy with ⟨hw, hv⟩ | ⟨hw, rfl⟩
  · simp only [hw, if_true]
    left
    have hc := hv w hS
    unfold Oper.wp
    generalize (execOp a.eval o).run P w = r at *
    cases r with
    | ok n w' =>
      cases n with
      | value u => obtain ⟨rfl, h'⟩ := hc; exact h _ h'
      | skip => obtain ⟨rfl, h'⟩ := hc; exact h _ h'
      | enter f args => exact Calls.mono hc fun e w'' he => by obtain ⟨rfl, hs⟩ := he; exact h _ hs
      | _ => exact hc.elim
    | halt x w' => exact hc.elim
  · simp only [hw, Bool.false_eq_true, if_false]
    exact h _ hS
/-- whichever comes up comes to one value: no world is spoken of till the end -/
def wpB (P : Program) (md : Region.Mode) (ops : Array Oper) (Q : Exit → Act → World → Prop) (S : World → Prop) : Nat → Array Bool → Act → Prop
  | 0, listed, a => Region.ready md ops listed = [] ∧ ∀ w, S w → Q .normal a w
  | fuel + 1, listed, a => (Region.ready md ops listed = [] → ∀ w, S w → Q .normal a w) ∧
    ∀ i ∈ Region.ready md ops listed, ∃ oi v, ops[i]? = some oi ∧ Steady P ops S oi v a ∧ wpB P md ops Q S fuel (listed.setIfInBounds i true) (a.put oi.dst v)
theorem wpAny_of_B : ∀ (fuel : Nat) (listed : Array Bool) (a : Act), wpB P md ops Q S fuel listed a → ∀ w, S w → wpAny P md ops Q fuel listed a w
  | 0, _, _, h, w, hS => ⟨h.1, h.2 w hS⟩
  | fuel + 1, _, _, h, w, hS => ⟨fun hr => h.1 hr w hS, fun i hi => by
      obtain ⟨oi, v, ho, hy, hn⟩ := h.2 i hi
      exact steady_op ho hy hS fun w' hS' => wpAny_of_B fuel _ _ hn w' hS'⟩
theorem wpB_first {i : Nat} {oi : Oper} {v : Value} (hi : ops[i]? = some oi) (hsel : ∀ (j : Nat) (o : Oper) cs b, ops[j]? = some o → o.op ≠ .select cs b) :
    ∀ (fuel : Nat) (listed : Array Bool) (a : Act),
      (∀ j oj, ops[j]? = some oj → j ≠ i → listed.getD j true = false → (∀ e ∈ oj.after, Region.binds md e = true → e.on ≠ i) → oi.apart ops oj = true) →
      i ∈ Region.ready md ops listed → Steady P ops S oi v a →
      wpB P md ops Q S fuel (listed.setIfInBounds i true) (a.put oi.dst v) → wpB P md ops Q S (fuel + 1) listed a := by
  intro fuel
  induction fuel with
  | zero =>
    intro listed a _ hr hy H
    refine ⟨fun h => (by rw [h] at hr; cases hr), fun j hj => ?_⟩
    by_cases hji : j = i
    · subst hji; exact ⟨oi, v, hi, hy, H⟩
    · have hm := ready_mono hj hji
      rw [H.1] at hm
      cases hm
  | succ fuel ih =>
    intro listed a hfree hr hy H
    refine ⟨fun h => (by rw [h] at hr; cases hr), fun j hj => ?_⟩
    by_cases hji : j = i
    · subst hji; exact ⟨oi, v, hi, hy, H⟩
    · obtain ⟨oj, u, hoj, hsj, Hj⟩ := H.2 j (ready_mono hj hji)
      obtain ⟨hjun, oj', hoj', hall⟩ := mem_ready.1 hj
      obtain rfl : oj' = oj := Option.some.inj (hoj'.symm.trans hoj)
      have hnot : ∀ e ∈ oj'.after, Region.binds md e = true → e.on ≠ i := fun e he hb heq => by
        have h1 := hall e he hb
        have h0 := (mem_ready.1 hr).1
        rw [heq] at h1
        have : listed.getD i true = listed.getD i false := by
          rcases Nat.lt_or_ge i listed.size with h' | h'
          · simp [h']
          · simp [Array.getElem?_eq_none h'] at h1
        rw [this, h1] at h0
        cases h0
      obtain ⟨h1, h2, h3⟩ := Oper.apart_spec (hfree j oj' hoj hji hjun hnot)
      have k1 : Steady P ops S oj' u a := steady_same hsj (execOp_put oj' (fun cs b => hsel j oj' cs b hoj) a oi.dst v h1).symm (wanted_put oj' a oi.dst v h1).symm
      have k2 : Steady P ops S oi v (a.put oj'.dst u) := steady_same hy (execOp_put oi (fun cs b => hsel i oi cs b hi) a oj'.dst u h3) (wanted_put oi a oj'.dst u h3)
      refine ⟨oj', u, hoj, k1, ih _ _ (fun k ok hk hki hun hno => ?_) (ready_mono hr (Ne.symm hji)) k2 ?_⟩
      · refine hfree k ok hk hki ?_ hno
        by_cases hjk : j = k
        · subst hjk; exact hjun
        · rw [getD_set_ne true hjk] at hun; exact hun
      · rw [Array.setIfInBounds_comm _ _ hji, ← Act.put_comm a v u h2]
        exact Hj
theorem wpB_take {i : Nat} {oi : Oper} {v : Value} {fuel : Nat} {listed : Array Bool} {a : Act} (hi : ops[i]? = some oi) (hs : Region.noSelect ops = true)
    (hf : Region.free md ops listed i = true) (hr : (Region.ready md ops listed).contains i = true) (hy : Steady P ops S oi v a)
    (h : wpB P md ops Q S fuel (listed.setIfInBounds i true) (a.put oi.dst v)) : wpB P md ops Q S (fuel + 1) listed a :=
  wpB_first hi (Region.noSelect_spec hs) fuel listed a (Region.free_spec hi hf) (by simpa using hr) hy h
theorem op_of_drop {i : Nat} {oi : Oper} {rest : List Oper} (h : ops.toList.drop i = oi :: rest) : ops[i]? = some oi := by
  have h0 : (ops.toList.drop i)[0]? = some oi := by rw [h]; rfl
  simpa [List.getElem?_drop] using h0
/-- number i, as it stands in the text -/
theorem wpB_text (i : Nat) {oi : Oper} {rest : List Oper} {v : Value} {fuel : Nat} {listed : Array Bool} {a : Act} (hi : ops.toList.drop i = oi :: rest) (hs : Region.noSelect ops = true)
    (hf : Region.free md ops listed i = true) (hr : (Region.ready md ops listed).contains i = true) (hw : Region.wanted oi (yielded ops a.tmps) = true)
    (hy : ∀ w, S w → Comes P S v ((execOp a.eval oi).run P w))
    (h : wpB P md ops Q S fuel (listed.setIfInBounds i true) (a.put oi.dst v)) : wpB P md ops Q S (fuel + 1) listed a :=
  wpB_take (op_of_drop hi) hs hf hr (Or.inl ⟨hw, hy⟩) h
/-- number i, which is not asked for -/
theorem wpB_skip (i : Nat) {oi : Oper} {rest : List Oper} {fuel : Nat} {listed : Array Bool} {a : Act} (hi : ops.toList.drop i = oi :: rest) (hs : Region.noSelect ops = true)
    (hf : Region.free md ops listed i = true) (hr : (Region.ready md ops listed).contains i = true) (hw : Region.wanted oi (yielded ops a.tmps) = false)
    (h : wpB P md ops Q S fuel (listed.setIfInBounds i true) (a.put oi.dst undef)) : wpB P md ops Q S (fuel + 1) listed a :=
  wpB_take (op_of_drop hi) hs hf hr (Or.inr ⟨hw, rfl⟩) h
theorem wpB_done {listed : Array Bool} {a : Act} (hr : Region.ready md ops listed = []) (h : ∀ w, S w → Q .normal a w) : ∀ fuel, wpB P md ops Q S fuel listed a
  | 0 => ⟨hr, h⟩
  | _ + 1 => ⟨fun _ => h, by rw [hr]; simp⟩
theorem wp_region_B {id : Nat} {a : Act} {w : World} (S : World → Prop) (hm : P.follows .mixedOrders = true) (hS : S w.drew)
    (h : wpB P .any ops Q S ops.size (Array.replicate ops.size false) a) : (Code.region id ops true).wp P Q a w :=
  wp_region_any hm (wpAny_of_B _ _ _ h _ hS)
end
end Go.Proofs.Ytjkfdcjfoliboaa
/- A statement that leaves the order of its first operations open, all of which come to one value in every world that meets S and lead to such a world again; the last ones stand in one order: one walk, in the order of the text. -/
namespace Go.Proofs.Ytjkfdcjfoliboaa
open Go.ChangeShapes Go.WideShapes Go.ChangeAt Go.RowKit Go.Joins
set_option linter.unusedVariables false
set_option linter.unusedSimpArgs false
set_option maxRecDepth 4000
section
variable {P : Program} {ops : Array Oper} {md : Region.Mode} {S : World → Prop}
def wpAnyS (P : Program) (md : Region.Mode) (ops : Array Oper) (S : World → Prop) (n : Nat) (L : Array Bool → Act → Prop) : Nat → Array Bool → Act → Prop
  | 0, listed, a => L listed a
  | f + 1, listed, a => Region.ready md ops listed ≠ [] ∧ ∀ i ∈ Region.ready md ops listed, i < n ∧ ∃ oi v, ops[i]? = some oi ∧ Steady P ops S oi v a ∧ wpAnyS P md ops S n L f (listed.setIfInBounds i true) (a.put oi.dst v)
theorem wpAny_of_S {n g : Nat} {L : Array Bool → Act → Prop} {Q : Exit → Act → World → Prop} (hL : ∀ listed a, L listed a → ∀ w, S w → wpAny P md ops Q g listed a w) :
    ∀ (f : Nat) (listed : Array Bool) (a : Act), wpAnyS P md ops S n L f listed a → ∀ w, S w → wpAny P md ops Q (f + g) listed a w
  | 0, listed, a, h, w, hS => by rw [Nat.zero_add]; exact hL _ _ h w hS
  | f + 1, listed, a, h, w, hS => by
    rw [show f + 1 + g = (f + g) + 1 by omega]
    exact ⟨fun h0 => absurd h0 h.1, fun i hi => by
      obtain ⟨_, oi, v, ho, hy, hn⟩ := h.2 i hi
      exact steady_op ho hy hS fun w' hS' => wpAny_of_S hL f _ _ hn w' hS'⟩
theorem wpAnyS_first {n i : Nat} {oi : Oper} {v : Value} {L : Array Bool → Act → Prop} (hi : ops[i]? = some oi) (hsel : ∀ (j : Nat) (o : Oper) cs b, ops[j]? = some o → o.op ≠ .select cs b)
    (hs : Region.sinkB md ops n = true) (hc : Region.chainB md ops n = true) (hn : n < ops.size) (hin : i < n)
    (hdone : ∀ listed a, L listed a → ∀ j ∈ Region.ready md ops listed, n ≤ j) :
    ∀ (f : Nat) (listed : Array Bool) (a : Act), HeadInv md ops n listed →
      (∀ j oj, ops[j]? = some oj → j ≠ i → listed.getD j true = false → (∀ e ∈ oj.after, Region.binds md e = true → e.on ≠ i) → oi.apart ops oj = true) →
      i ∈ Region.ready md ops listed → Steady P ops S oi v a →
      wpAnyS P md ops S n L f (listed.setIfInBounds i true) (a.put oi.dst v) → wpAnyS P md ops S n L (f + 1) listed a := by
  intro f
  induction f with
  | zero =>
    intro listed a inv _ hr hy H
    have hun := (mem_ready.1 hr).1
    refine ⟨fun h => (by rw [h] at hr; cases hr), fun j hj => ?_⟩
    have hjn : j < n := by
      rcases Nat.lt_or_ge j n with h | h
      · exact h
      · exact absurd hj (tail_waits hs hc hn inv _ i rfl hin hun j h)
    refine ⟨hjn, ?_⟩
    by_cases hji : j = i
    · subst hji; exact ⟨oi, v, hi, hy, H⟩
    · have := hdone _ _ H j (ready_mono hj hji)
      omega
  | succ f ih =>
    intro listed a inv hfree hr hy H
    have hun := (mem_ready.1 hr).1
    refine ⟨fun h => (by rw [h] at hr; cases hr), fun j hj => ?_⟩
    have hjn : j < n := by
      rcases Nat.lt_or_ge j n with h | h
      · exact h
      · exact absurd hj (tail_waits hs hc hn inv _ i rfl hin hun j h)
    refine ⟨hjn, ?_⟩
    by_cases hji : j = i
    · subst hji; exact ⟨oi, v, hi, hy, H⟩
    · obtain ⟨_, oj, u, hoj, hsj, Hj⟩ := H.2 j (ready_mono hj hji)
      obtain ⟨hjun, oj', hoj', hall⟩ := mem_ready.1 hj
      obtain rfl : oj' = oj := Option.some.inj (hoj'.symm.trans hoj)
      have hnot : ∀ e ∈ oj'.after, Region.binds md e = true → e.on ≠ i := fun e he hb heq => by
        have h1 := hall e he hb
        rw [heq, getD_both hun] at h1
        cases h1
      obtain ⟨h1, h2, h3⟩ := Oper.apart_spec (hfree j oj' hoj hji hjun hnot)
      have k1 : Steady P ops S oj' u a := steady_same hsj (execOp_put oj' (fun cs b => hsel j oj' cs b hoj) a oi.dst v h1).symm (wanted_put oj' a oi.dst v h1).symm
      have k2 : Steady P ops S oi v (a.put oj'.dst u) := steady_same hy (execOp_put oi (fun cs b => hsel i oi cs b hi) a oj'.dst u h3) (wanted_put oi a oj'.dst u h3)
      refine ⟨oj', u, hoj, k1, ih _ _ (inv.set hj hjn) (fun k ok hk hki hun hno => ?_) (ready_mono hr (Ne.symm hji)) k2 ?_⟩
      · refine hfree k ok hk hki ?_ hno
        by_cases hjk : j = k
        · subst hjk; exact hjun
        · rw [getD_set_ne true hjk] at hun; exact hun
      · rw [Array.setIfInBounds_comm _ _ hji, ← Act.put_comm a v u h2]
        exact Hj
/-- the head, in the text's order -/
def wpH (P : Program) (ops : Array Oper) (S : World → Prop) (T : Act → Prop) : List Oper → Act → Prop
  | [], a => T a
  | o :: rest, a => ∃ v, Steady P ops S o v a ∧ wpH P ops S T rest (a.put o.dst v)
theorem wpAnyS_lex {n g : Nat} {T : Act → Prop} (hsel : Region.noSelect ops = true) (hs : Region.sinkB md ops n = true) (hc : Region.chainB md ops n = true) (hn : n < ops.size) :
    ∀ (l : List Oper) (k : Nat) (listed : Array Bool) (a : Act), (∀ j, j < l.length → l[j]? = ops[k + j]?) → k + l.length = n → HeadInv md ops n listed →
    Region.lexHead md ops g l.length k listed = true → wpH P ops S T l a →
    wpAnyS P md ops S n (fun listed' a' => Region.seqB md ops g n listed' = true ∧ T a') l.length listed a
  | [], k, listed, a, _, hk, _, hB, h => by
    have : k = n := by simpa using hk
    subst this
    exact ⟨by simpa [Region.lexHead] using hB, h⟩
  | o :: l, k, listed, a, hl, hk, inv, hB, h => by
    have h0 : ops[k]? = some o := by simpa using (hl 0 (by simp)).symm
    simp only [List.length_cons, Region.lexHead, Bool.and_eq_true] at hB
    obtain ⟨⟨hr, hf⟩, hB'⟩ := hB
    have hkn : k < n := by simp only [List.length_cons] at hk; omega
    have hr' : k ∈ Region.ready md ops listed := by simpa using hr
    obtain ⟨v, hy, hK⟩ := h
    exact wpAnyS_first h0 (Region.noSelect_spec hsel) hs hc hn hkn (fun listed' a' hL => seqB_ready hL.1) l.length listed a inv (Region.free_spec h0 hf) hr' hy
      (wpAnyS_lex hsel hs hc hn l (k + 1) _ _ (fun j hj => by have := hl (j + 1) (by simp; omega); simpa [Nat.add_assoc, Nat.add_comm 1 j] using this) (by simp only [List.length_cons] at hk; omega) (inv.set hr' hkn) hB' hK)
theorem wp_region_BT {id : Nat} {Q : Exit → Act → World → Prop} {a : Act} {w : World} {l : List Oper} (n : Nat) (S : World → Prop) (hm : P.follows .mixedOrders = true) (hB : Region.lexTailB .any l.toArray n = true) (hS : S w.drew)
    (h : wpH P l.toArray S (fun a' => ∀ W, S W → wpList P l.toArray Q (l.drop n) a' W) (l.take n) a) : (Code.region id l.toArray true).wp P Q a w := by
  simp only [Region.lexTailB, Bool.and_eq_true, decide_eq_true_eq] at hB
  obtain ⟨⟨⟨⟨hsel, hn⟩, hs⟩, hc⟩, hlex⟩ := hB
  have hn' : n < l.length := by simpa using hn
  have htl : (l.take n).length = n := by simp; omega
  have hdl : (l.drop n).length = l.toArray.size - n := by simp
  have inv0 : HeadInv .any l.toArray n (Array.replicate l.toArray.size false) :=
    ⟨by simp, fun j oj _ hl => (by rw [getD_replicate_false] at hl; cases hl), fun t _ ht => getD_in (by simpa using ht) (getD_replicate_false _ _)⟩
  have H := wpAnyS_lex (md := .any) (g := l.toArray.size - n) hsel hs hc hn (l.take n) 0 _ a (fun j hj => by
    have hj' : j < n := by rw [htl] at hj; exact hj
    simp [hj']) (by simpa using htl) inv0 (by rw [htl]; exact hlex) h
  refine wp_region_any hm ?_
  have := wpAny_of_S (Q := Q) (g := l.toArray.size - n) (fun listed a' hL W hW => by
    have := wpAny_of_seq (md := .any) (Q' := Q) (l.drop n) n listed a' W (fun j => by simp [List.getElem?_drop]) (by rw [hdl]; exact hL.1) (hL.2 W hW)
    rwa [hdl] at this) _ _ _ H w.drew hS
  rw [htl, show n + (l.toArray.size - n) = l.toArray.size by omega] at this
  exact this
theorem wpH_text {T : Act → Prop} {o : Oper} {rest : List Oper} {a : Act} {v : Value} (hw : Region.wanted o (yielded ops a.tmps) = true) (hy : ∀ w, S w → Comes P S v ((execOp a.eval o).run P w))
    (h : wpH P ops S T rest (a.put o.dst v)) : wpH P ops S T (o :: rest) a := ⟨v, Or.inl ⟨hw, hy⟩, h⟩
theorem wpH_skip {T : Act → Prop} {o : Oper} {rest : List Oper} {a : Act} (hw : Region.wanted o (yielded ops a.tmps) = false)
    (h : wpH P ops S T rest (a.put o.dst undef)) : wpH P ops S T (o :: rest) a := ⟨undef, Or.inr ⟨hw, rfl⟩, h⟩
theorem wpH_nil {T : Act → Prop} {a : Act} (h : T a) : wpH P ops S T [] a := h
end
end Go.Proofs.Ytjkfdcjfoliboaa
/- contracts: differences of points, squares -/
namespace Go.Proofs.Ytjkfdcjfoliboaa
open Go.ChangeShapes Go.WideShapes Go.ChangeAt Go.RowKit Go.Joins
set_option linter.unusedVariables false
set_option linter.unusedSimpArgs false
set_option maxRecDepth 4000
/-- numbers that leave room -/
def Mid (x : Int) : Prop := -1000000000000 ≤ x ∧ x ≤ 1000000000000
theorem minus_any (a1 a2 b1 b2 : Int) (w : World) (h1 : Mid a1) (h2 : Mid a2) (h3 : Mid b1) (h4 : Mid b2) :
    Calls Try.prog 88 #[.agg #[.int .i64 a1, .int .i64 a2], .agg #[.int .i64 b1, .int .i64 b2]] w fun e w' => e = .returned (.agg #[.int .i64 (a1 - b1), .int .i64 (a2 - b2)]) ∧ Below w.heap.size w w' := by
  obtain ⟨x1, x2⟩ := h1
  obtain ⟨x3, x4⟩ := h2
  obtain ⟨x5, x6⟩ := h3
  obtain ⟨x7, x8⟩ := h4
  go_enter Try.func88, Try.ntmps88
  go_wp2
  refine bodyPost_ret (v := .agg #[.int .i64 (a1 - b1), .int .i64 (a2 - b2)]) (by simp [results, Try.results88, go_sem]) rfl ⟨rfl, ?_⟩
  repeat (first | with_reducible assumption | with_reducible exact Below.refl _ _ | with_reducible apply Below.drew | ((with_reducible refine Below.setCell ?_ ?_ _); rotate_left; (first | exact Nat.le_refl _ | omega | (simp <;> omega))) | ((with_reducible refine Below.alloc ?_ ?_ _); rotate_left; (first | omega | (simp <;> omega))))
end Go.Proofs.Ytjkfdcjfoliboaa
/- contracts: points added, and taken several times -/
namespace Go.Proofs.Ytjkfdcjfoliboaa
open Go.ChangeShapes Go.WideShapes Go.ChangeAt Go.RowKit Go.Joins
set_option linter.unusedVariables false
set_option linter.unusedSimpArgs false
set_option maxRecDepth 4000
theorem plus_any (a1 a2 b1 b2 : Int) (w : World) (h1 : Mid a1) (h2 : Mid a2) (h3 : Mid b1) (h4 : Mid b2) :
    Calls Try.prog 78 #[.agg #[.int .i64 a1, .int .i64 a2], .agg #[.int .i64 b1, .int .i64 b2]] w fun e w' => e = .returned (.agg #[.int .i64 (a1 + b1), .int .i64 (a2 + b2)]) ∧ Below w.heap.size w w' := by
  obtain ⟨x1, x2⟩ := h1
  obtain ⟨x3, x4⟩ := h2
  obtain ⟨x5, x6⟩ := h3
  obtain ⟨x7, x8⟩ := h4
  go_enter Try.func78, Try.ntmps78
  go_wp2
  refine bodyPost_ret (v := .agg #[.int .i64 (a1 + b1), .int .i64 (a2 + b2)]) (by simp [results, Try.results78, go_sem]) rfl ⟨rfl, ?_⟩
  repeat (first | with_reducible assumption | with_reducible exact Below.refl _ _ | with_reducible apply Below.drew | ((with_reducible refine Below.setCell ?_ ?_ _); rotate_left; (first | exact Nat.le_refl _ | omega | (simp <;> omega))) | ((with_reducible refine Below.alloc ?_ ?_ _); rotate_left; (first | omega | (simp <;> omega))))
theorem times_any (a1 a2 n : Int) (w : World) (h1 : -1000000000000000 ≤ a1 * n ∧ a1 * n ≤ 1000000000000000) (h2 : -1000000000000000 ≤ a2 * n ∧ a2 * n ≤ 1000000000000000) :
    Calls Try.prog 94 #[.agg #[.int .i64 a1, .int .i64 a2], .int .i64 n] w fun e w' => e = .returned (.agg #[.int .i64 (a1 * n), .int .i64 (a2 * n)]) ∧ Below w.heap.size w w' := by
  obtain ⟨x1, x2⟩ := h1
  obtain ⟨x3, x4⟩ := h2
  go_enter Try.func94, Try.ntmps94
  go_wp2
  refine bodyPost_ret (v := .agg #[.int .i64 (a1 * n), .int .i64 (a2 * n)]) (by simp [results, Try.results94, go_sem]) rfl ⟨rfl, ?_⟩
  repeat (first | with_reducible assumption | with_reducible exact Below.refl _ _ | with_reducible apply Below.drew | ((with_reducible refine Below.setCell ?_ ?_ _); rotate_left; (first | exact Nat.le_refl _ | omega | (simp <;> omega))) | ((with_reducible refine Below.alloc ?_ ?_ _); rotate_left; (first | omega | (simp <;> omega))))
end Go.Proofs.Ytjkfdcjfoliboaa
/- A statement that leaves its order open and in which one operation writes what no other one reads: one walk through it, in the order of the text. -/
namespace Go.Proofs.Ytjkfdcjfoliboaa
open Go.ChangeShapes Go.WideShapes Go.ChangeAt Go.RowKit Go.Joins
set_option linter.unusedVariables false
set_option linter.unusedSimpArgs false
set_option maxRecDepth 4000
section
variable {P : Program} {ops : Array Oper} {Q : Exit → Act → World → Prop} {md : Region.Mode} {S : Array Bool → World → Prop}
def SteadyL (P : Program) (ops : Array Oper) (S : Array Bool → World → Prop) (i : Nat) (o : Oper) (v : Value) (a : Act) : Prop :=
  (Region.wanted o (yielded ops a.tmps) = true ∧ ∀ L w, L.getD i true = false → S L w → Comes P (S (L.setIfInBounds i true)) v ((execOp a.eval o).run P w)) ∨
  (Region.wanted o (yielded ops a.tmps) = false ∧ v = undef ∧ ∀ L w, S L w → S (L.setIfInBounds i true) w)
theorem steadyL_same {i : Nat} {o : Oper} {v : Value} {a a' : Act} (hy : SteadyL P ops S i o v a) (he : execOp a'.eval o = execOp a.eval o)
    (hw : Region.wanted o (yielded ops a'.tmps) = Region.wanted o (yielded ops a.tmps)) : SteadyL P ops S i o v a' := by
  unfold SteadyL at *; rw [he, hw]; exact hy
theorem steadyL_op {i : Nat} {o : Oper} {v : Value} {a : Act} (hi : ops[i]? = some o) (hy : SteadyL P ops S i o v a) {K : Act → World → Prop} {w : World} {L : Array Bool} (hl : L.getD i true = false) (hS : S L w)
    (h : ∀ w', S (L.setIfInBounds i true) w' → K (a.put o.dst v) w') : wpOp P ops Q i K a w := by
  unfold wpOp
  simp only [hi]
  rcases hy with ⟨hw, hv⟩ | ⟨hw, rfl, hk⟩
  · simp only [hw, if_true]
    left
    have hc := hv L w hl hS
    unfold Oper.wp
    generalize (execOp a.eval o).run P w = r at *
    cases r with
    | ok n w' =>
      cases n with
      | value u => obtain ⟨rfl, h'⟩ := hc; exact h _ h'
      | skip => obtain ⟨rfl, h'⟩ := hc; exact h _ h'
      | enter f args => exact Calls.mono hc fun e w'' he => by obtain ⟨rfl, hs⟩ := he; exact h _ hs
      | _ => exact hc.elim
    | halt x w' => exact hc.elim
  · simp only [hw, Bool.false_eq_true, if_false]
    exact h _ (hk L w hS)
def wpL (P : Program) (md : Region.Mode) (ops : Array Oper) (Q : Exit → Act → World → Prop) (S : Array Bool → World → Prop) : Nat → Array Bool → Act → Prop
  | 0, listed, a => Region.ready md ops listed = [] ∧ ∀ w, S listed w → Q .normal a w
  | fuel + 1, listed, a => (Region.ready md ops listed = [] → ∀ w, S listed w → Q .normal a w) ∧
    ∀ i ∈ Region.ready md ops listed, ∃ oi v, ops[i]? = some oi ∧ SteadyL P ops S i oi v a ∧ wpL P md ops Q S fuel (listed.setIfInBounds i true) (a.put oi.dst v)
theorem wpAny_of_L : ∀ (fuel : Nat) (listed : Array Bool) (a : Act), wpL P md ops Q S fuel listed a → ∀ w, S listed w → wpAny P md ops Q fuel listed a w
  | 0, _, _, h, w, hS => ⟨h.1, h.2 w hS⟩
  | fuel + 1, _, _, h, w, hS => ⟨fun hr => h.1 hr w hS, fun i hi => by
      obtain ⟨oi, v, ho, hy, hn⟩ := h.2 i hi
      exact steadyL_op ho hy (mem_ready.1 hi).1 hS fun w' hS' => wpAny_of_L fuel _ _ hn w' hS'⟩
theorem wpL_first {i : Nat} {oi : Oper} {v : Value} (hi : ops[i]? = some oi) (hsel : ∀ (j : Nat) (o : Oper) cs b, ops[j]? = some o → o.op ≠ .select cs b) :
    ∀ (fuel : Nat) (listed : Array Bool) (a : Act),
      (∀ j oj, ops[j]? = some oj → j ≠ i → listed.getD j true = false → (∀ e ∈ oj.after, Region.binds md e = true → e.on ≠ i) → oi.apart ops oj = true) →
      i ∈ Region.ready md ops listed → SteadyL P ops S i oi v a →
      wpL P md ops Q S fuel (listed.setIfInBounds i true) (a.put oi.dst v) → wpL P md ops Q S (fuel + 1) listed a := by
  intro fuel
  induction fuel with
  | zero =>
    intro listed a _ hr hy H
    refine ⟨fun h => (by rw [h] at hr; cases hr), fun j hj => ?_⟩
    by_cases hji : j = i
    · subst hji; exact ⟨oi, v, hi, hy, H⟩
    · have hm := ready_mono hj hji
      rw [H.1] at hm
      cases hm
  | succ fuel ih =>
    intro listed a hfree hr hy H
    refine ⟨fun h => (by rw [h] at hr; cases hr), fun j hj => ?_⟩
    by_cases hji : j = i
    · subst hji; exact ⟨oi, v, hi, hy, H⟩
    · obtain ⟨oj, u, hoj, hsj, Hj⟩ := H.2 j (ready_mono hj hji)
      obtain ⟨hjun, oj', hoj', hall⟩ := mem_ready.1 hj
      obtain rfl : oj' = oj := Option.some.inj (hoj'.symm.trans hoj)
      have hnot : ∀ e ∈ oj'.after, Region.binds md e = true → e.on ≠ i := fun e he hb heq => by
        have h1 := hall e he hb
        have h0 := (mem_ready.1 hr).1
        rw [heq] at h1
        have : listed.getD i true = listed.getD i false := by
          rcases Nat.lt_or_ge i listed.size with h' | h'
          · simp [h']
          · simp [Array.getElem?_eq_none h'] at h1
        rw [this, h1] at h0
        cases h0
      obtain ⟨h1, h2, h3⟩ := Oper.apart_spec (hfree j oj' hoj hji hjun hnot)
      have k1 : SteadyL P ops S j oj' u a := steadyL_same hsj (execOp_put oj' (fun cs b => hsel j oj' cs b hoj) a oi.dst v h1).symm (wanted_put oj' a oi.dst v h1).symm
      have k2 : SteadyL P ops S i oi v (a.put oj'.dst u) := steadyL_same hy (execOp_put oi (fun cs b => hsel i oi cs b hi) a oj'.dst u h3) (wanted_put oi a oj'.dst u h3)
      refine ⟨oj', u, hoj, k1, ih _ _ (fun k ok hk hki hun hno => ?_) (ready_mono hr (Ne.symm hji)) k2 ?_⟩
      · refine hfree k ok hk hki ?_ hno
        by_cases hjk : j = k
        · subst hjk; exact hjun
        · rw [getD_set_ne true hjk] at hun; exact hun
      · rw [Array.setIfInBounds_comm _ _ hji, ← Act.put_comm a v u h2]
        exact Hj
/-- operation number z turns W1 into W2, as far as block n -/
def Flag (z n : Nat) (W1 W2 : World) (L : Array Bool) (W : World) : Prop := Below n (if L.getD z false = true then W2 else W1) W
theorem wpZ_take {z n i : Nat} {W1 W2 : World} {oi : Oper} {v : Value} {fuel : Nat} {listed : Array Bool} {a : Act} (hi : ops[i]? = some oi) (hs : Region.noSelect ops = true)
    (hf : Region.free md ops listed i = true) (hr : (Region.ready md ops listed).contains i = true) (hy : SteadyL P ops (Flag z n W1 W2) i oi v a)
    (h : wpL P md ops Q (Flag z n W1 W2) fuel (listed.setIfInBounds i true) (a.put oi.dst v)) : wpL P md ops Q (Flag z n W1 W2) (fuel + 1) listed a :=
  wpL_first hi (Region.noSelect_spec hs) fuel listed a (Region.free_spec hi hf) (by simpa using hr) hy h
/-- number i, as it stands in the text; it is not number z -/
theorem wpZ_text {z n : Nat} {W1 W2 : World} (i : Nat) {oi : Oper} {rest : List Oper} {v : Value} {fuel : Nat} {listed : Array Bool} {a : Act} (hi : ops.toList.drop i = oi :: rest) (hs : Region.noSelect ops = true)
    (hf : Region.free md ops listed i = true) (hr : (Region.ready md ops listed).contains i = true) (hw : Region.wanted oi (yielded ops a.tmps) = true) (hz : i ≠ z)
    (h1 : ∀ X, (X = W1 ∨ X = W2) → ∀ w, Below n X w → Comes P (Below n X) v ((execOp a.eval oi).run P w))
    (h : wpL P md ops Q (Flag z n W1 W2) fuel (listed.setIfInBounds i true) (a.put oi.dst v)) : wpL P md ops Q (Flag z n W1 W2) (fuel + 1) listed a :=
  wpZ_take (op_of_drop hi) hs hf hr (Or.inl ⟨hw, fun L w _ hS => by
    have e : Flag z n W1 W2 (L.setIfInBounds i true) = Flag z n W1 W2 L := by unfold Flag; rw [getD_set_ne false hz]
    rw [e]
    unfold Flag at *
    split at hS
    · rename_i hc; simp only [hc, if_true]; exact h1 W2 (.inr rfl) w hS
    · rename_i hc; simp only [hc, if_false]; exact h1 W1 (.inl rfl) w hS⟩) h
theorem wpZ_skip {z n : Nat} {W1 W2 : World} (i : Nat) {oi : Oper} {rest : List Oper} {fuel : Nat} {listed : Array Bool} {a : Act} (hi : ops.toList.drop i = oi :: rest) (hs : Region.noSelect ops = true)
    (hf : Region.free md ops listed i = true) (hr : (Region.ready md ops listed).contains i = true) (hw : Region.wanted oi (yielded ops a.tmps) = false) (hz : i ≠ z)
    (h : wpL P md ops Q (Flag z n W1 W2) fuel (listed.setIfInBounds i true) (a.put oi.dst undef)) : wpL P md ops Q (Flag z n W1 W2) (fuel + 1) listed a :=
  wpZ_take (op_of_drop hi) hs hf hr (Or.inr ⟨hw, rfl, fun L w hS => by unfold Flag at *; rw [getD_set_ne false hz]; exact hS⟩) h
/-- number z itself -/
theorem wpZ_store {z n : Nat} {W1 W2 : World} {oi : Oper} {rest : List Oper} {v : Value} {fuel : Nat} {listed : Array Bool} {a : Act} (hi : ops.toList.drop z = oi :: rest) (hs : Region.noSelect ops = true)
    (hf : Region.free md ops listed z = true) (hr : (Region.ready md ops listed).contains z = true) (hw : Region.wanted oi (yielded ops a.tmps) = true)
    (h1 : ∀ w, Below n W1 w → Comes P (Below n W2) v ((execOp a.eval oi).run P w))
    (h : wpL P md ops Q (Flag z n W1 W2) fuel (listed.setIfInBounds z true) (a.put oi.dst v)) : wpL P md ops Q (Flag z n W1 W2) (fuel + 1) listed a :=
  wpZ_take (op_of_drop hi) hs hf hr (Or.inl ⟨hw, fun L w hl hS => by
    have h0 : L.getD z false = false := getD_both hl
    have h2 : (L.setIfInBounds z true).getD z false = true := by
      rcases Nat.lt_or_ge z L.size with h' | h'
      · simp [h']
      · simp [Array.getElem?_eq_none h'] at hl
    have e : Flag z n W1 W2 (L.setIfInBounds z true) = Below n W2 := by funext W; unfold Flag; rw [h2]; rfl
    rw [e]
    unfold Flag at hS
    rw [h0] at hS
    exact h1 w hS⟩) h
theorem wpZ_done {z n : Nat} {W1 W2 : World} {listed : Array Bool} {a : Act} (hr : Region.ready md ops listed = []) (hz : listed.getD z false = true) (h : ∀ w, Below n W2 w → Q .normal a w) : ∀ fuel, wpL P md ops Q (Flag z n W1 W2) fuel listed a
  | 0 => ⟨hr, fun w hS => h w (by unfold Flag at hS; rw [hz] at hS; exact hS)⟩
  | _ + 1 => ⟨fun _ w hS => h w (by unfold Flag at hS; rw [hz] at hS; exact hS), by rw [hr]; simp⟩
theorem wp_region_Z {id : Nat} {a : Act} {w : World} (z n : Nat) (W1 W2 : World) (hm : P.follows .mixedOrders = true) (hS : Below n W1 w.drew)
    (h : wpL P .any ops Q (Flag z n W1 W2) ops.size (Array.replicate ops.size false) a) : (Code.region id ops true).wp P Q a w :=
  wp_region_any hm (wpAny_of_L _ _ _ h _ (by unfold Flag; rw [getD_replicate_false]; exact hS))
theorem bcellN {n : Nat} {X W : World} (h : Below n X W) : (∀ b o, b < n → W.cell? ⟨b, o, none⟩ = X.cell? ⟨b, o, none⟩) ∧ (∀ b o, b < n → W.frozen? ⟨b, o, none⟩ = X.frozen? ⟨b, o, none⟩) :=
  ⟨fun b o hb => h.cell (p := ⟨b, o, none⟩) hb, fun b o hb => h.frozen (p := ⟨b, o, none⟩) hb⟩
theorem below_set2 {n : Nat} {W1 w : World} (h : Below n W1 w) (p : Addr) (u : Value) (hp : p.block < n) : Below n (W1.setCell p u) (w.setCell p u) :=
  ⟨h.os, h.tape, h.output, by simpa [World.setCell] using h.size, fun k hk => by
    simp only [World.setCell, Array.getElem?_modify]
    rw [h.block k hk]⟩
end
end Go.Proofs.Ytjkfdcjfoliboaa
/- contract: a point divided by a number that is not 0 -/
namespace Go.Proofs.Ytjkfdcjfoliboaa
open Go.ChangeShapes Go.WideShapes Go.ChangeAt Go.RowKit Go.Joins
set_option linter.unusedVariables false
set_option linter.unusedSimpArgs false
set_option maxRecDepth 4000
theorem tdivN_back (p n : Int) : (p.tmod n = 0 ↔ p.tdiv n * n = p) := by
  have := Int.tdiv_mul_add_tmod p n
  constructor <;> intro h <;> omega
theorem tdivN_bd (p n : Int) (h : Mid p) : Mid (p.tdiv n) ∧ Mid (p.tdiv n * n) := by
  have h2 : (p.tdiv n).natAbs ≤ p.natAbs := by rw [Int.natAbs_tdiv]; exact Nat.div_le_self _ _
  have h4 : (p.tdiv n * n).natAbs ≤ p.natAbs := by rw [Int.natAbs_mul, Int.natAbs_tdiv]; exact Nat.div_mul_le_self _ _
  unfold Mid at *
  omega
set_option maxHeartbeats 2000000 in
theorem dividedByN_any (p1 p2 n : Int) (w : World) (h1 : Mid p1) (h2 : Mid p2) (hn : n ≠ 0 ∧ -1000000 ≤ n ∧ n ≤ 1000000) :
    Calls Try.prog 89 #[.agg #[.int .i64 p1, .int .i64 p2], .int .i64 n] w fun e w' => e = .returned (.tuple #[.agg #[.int .i64 (p1.tdiv n), .int .i64 (p2.tdiv n)], .bool (decide (p1.tmod n = 0) && decide (p2.tmod n = 0))]) ∧ Below w.heap.size w w' := by
  obtain ⟨g1, g2⟩ := tdivN_bd p1 n h1
  obtain ⟨g3, g4⟩ := tdivN_bd p2 n h2
  have K := Lib.hid (fun W => times_any (p1.tdiv n) (p2.tdiv n) n W (by unfold Mid at g2; omega) (by unfold Mid at g4; omega))
  have e1 : decide (p1.tmod n = 0) = decide (p1.tdiv n * n = p1) := decide_eq_decide.2 (tdivN_back p1 n)
  have e2 : decide (p2.tmod n = 0) = decide (p2.tdiv n * n = p2) := decide_eq_decide.2 (tdivN_back p2 n)
  rw [e1, e2]
  generalize p1.tdiv n * n = m1 at *
  generalize p2.tdiv n * n = m2 at *
  obtain ⟨x1, x2⟩ := h1
  obtain ⟨x3, x4⟩ := h2
  obtain ⟨n0, n1, n2⟩ := hn
  have n3 : ¬ n = 0 := n0
  obtain ⟨x5, x6⟩ := g1
  obtain ⟨x7, x8⟩ := g3
  clear g2 g4 e1 e2
  by_cases c1 : m1 = p1
  · by_cases c2 : m2 = p2
    · subst c1 c2
      go_enter Try.func89, Try.ntmps89
      go_wp2_with fail
      obtain ⟨W0, hW0⟩ : ∃ W0, W0 = ((w.alloc (.cells #[.int .i64 m1, .int .i64 m2] 34)).alloc (.cells #[.int .i64 0, .int .i64 0] 34)) := ⟨_, rfl⟩
      rw [← hW0]
      have yW00_0 : W0.cell? ⟨w.heap.size, 0, none⟩ = some (.int .i64 m1) := by rw [hW0]; go_simp
      have yW00_1 : W0.cell? ⟨w.heap.size, 1, none⟩ = some (.int .i64 m2) := by rw [hW0]; go_simp
      have fW00 : ∀ o, W0.frozen? ⟨w.heap.size, o, none⟩ = false := by intro o; rw [hW0]; (repeat rw [frozen?_alloc_cells]); simp [World.frozen?]
      have zW00 : w.heap.size < W0.heap.size := by rw [hW0]; simp <;> omega
      have yW01_0 : W0.cell? ⟨w.heap.size + 1, 0, none⟩ = some (.int .i64 0) := by rw [hW0]; go_simp
      have yW01_1 : W0.cell? ⟨w.heap.size + 1, 1, none⟩ = some (.int .i64 0) := by rw [hW0]; go_simp
      have fW01 : ∀ o, W0.frozen? ⟨w.heap.size + 1, o, none⟩ = false := by intro o; rw [hW0]; (repeat rw [frozen?_alloc_cells]); simp [World.frozen?]
      have zW01 : w.heap.size + 1 < W0.heap.size := by rw [hW0]; simp <;> omega
      have BW0 : Below w.heap.size w W0 := by rw [hW0]; exact (Below.alloc (Below.alloc (Below.refl _ _) (by simp <;> omega) _) (by simp <;> omega) _)
      have eW0 : Hid (W0.heap.size = w.heap.size + 2) := Lib.hid (by rw [hW0]; simp)
      clear hW0
      go_region
      obtain ⟨W1, hW1⟩ : ∃ W1, W1 = (W0.alloc (.cells #[.int .i64 (m1.tdiv n), .int .i64 (m2.tdiv n)] 34)) := ⟨_, rfl⟩
      rw [← hW1]
      have yW10_0 : W1.cell? ⟨W0.heap.size, 0, none⟩ = some (.int .i64 (m1.tdiv n)) := by rw [hW1]; go_simp
      have yW10_1 : W1.cell? ⟨W0.heap.size, 1, none⟩ = some (.int .i64 (m2.tdiv n)) := by rw [hW1]; go_simp
      have fW10 : ∀ o, W1.frozen? ⟨W0.heap.size, o, none⟩ = false := by intro o; rw [hW1]; (repeat rw [frozen?_alloc_cells]); simp [World.frozen?]
      have zW10 : W0.heap.size < W1.heap.size := by rw [hW1]; simp <;> omega
      have BW1 : Below W0.heap.size W0 W1 := by rw [hW1]; exact (Below.alloc (Below.refl _ _) (by simp <;> omega) _)
      have eW1 : Hid (W1.heap.size = W0.heap.size + 1) := Lib.hid (by rw [hW1]; simp)
      clear hW1
      obtain ⟨hcA, hfA⟩ := bcell BW1
      have zA : w.heap.size < W1.heap.size := by omega
      have zB : w.heap.size + 1 < W1.heap.size := by omega
      have r0 := (hcA _ _ zW00).trans yW00_0
      have r1 := (hcA _ _ zW00).trans yW00_1
      have r2 := (hcA _ _ zW01).trans yW01_0
      have r3 := (hcA _ _ zW01).trans yW01_1
      have r4 : ∀ o, W1.frozen? ⟨w.heap.size + 1, o, none⟩ = false := fun o => (hfA _ _ zW01).trans (fW01 o)
      clear hcA hfA
      obtain ⟨W2, hW2⟩ : ∃ W2, W2 = (W1.setCell ⟨w.heap.size + 1, 0, none⟩ (.int .i64 (m1.tdiv n))).setCell ⟨w.heap.size + 1, 1, none⟩ (.int .i64 (m2.tdiv n)) := ⟨_, rfl⟩
      have ne : w.heap.size ≠ w.heap.size + 1 := by omega
      have ne2 : W0.heap.size ≠ w.heap.size + 1 := by omega
      have FX : Hid (∀ X, (X = W1 ∨ X = W2) → W1.heap.size ≤ X.heap.size ∧ X.cell? ⟨w.heap.size, 0, none⟩ = some (.int .i64 m1) ∧ X.cell? ⟨w.heap.size, 1, none⟩ = some (.int .i64 m2) ∧ X.cell? ⟨W0.heap.size, 0, none⟩ = some (.int .i64 (m1.tdiv n)) ∧ X.cell? ⟨W0.heap.size, 1, none⟩ = some (.int .i64 (m2.tdiv n))) := Lib.hid (fun X hX => by
        rcases hX with rfl | rfl
        · exact ⟨Nat.le_refl _, r0, r1, yW10_0, yW10_1⟩
        · rw [hW2]
          have o : ∀ (bb oo : Nat), bb ≠ w.heap.size + 1 → ((W1.setCell ⟨w.heap.size + 1, 0, none⟩ (.int .i64 (m1.tdiv n))).setCell ⟨w.heap.size + 1, 1, none⟩ (.int .i64 (m2.tdiv n))).cell? ⟨bb, oo, none⟩ = W1.cell? ⟨bb, oo, none⟩ := fun bb oo hh => by
            rw [World.cell?_setCell_other _ _ _ _ (fun e => hh (by injection e with e1 e2; exact e1.symm)), World.cell?_setCell_other _ _ _ _ (fun e => hh (by injection e with e1 e2; exact e1.symm))]
          exact ⟨by simp [World.setCell], (o _ _ ne).trans r0, (o _ _ ne).trans r1, (o _ _ ne2).trans yW10_0, (o _ _ ne2).trans yW10_1⟩)
      have HW2 := Lib.hid hW2
      have BW2 : Below w.heap.size w W2 := by
        rw [hW2]
        exact Below.setCell (Below.setCell (BW0.trans (BW1.mono BW0.size)) (by simp) _) (by simp) _
      have s0 : W2.cell? ⟨w.heap.size + 1, 0, none⟩ = some (.int .i64 (m1.tdiv n)) := by
        rw [hW2, World.cell?_setCell_other _ _ _ _ (fun e => by injection e with e1 e2; cases e2), World.cell?_setCell_same _ _ _ r2]
      have s1 : W2.cell? ⟨w.heap.size + 1, 1, none⟩ = some (.int .i64 (m2.tdiv n)) := by
        rw [hW2]
        exact World.cell?_setCell_same _ _ _ (show (W1.setCell ⟨w.heap.size + 1, 0, none⟩ (.int .i64 (m1.tdiv n))).cell? ⟨w.heap.size + 1, 1, none⟩ = some (.int .i64 0) by rw [World.cell?_setCell_other _ _ _ _ (fun e => by injection e with e1 e2; cases e2)]; exact r3)
      clear hW2
      go_wp2_with fail
      refine wp_region_Z 6 W1.heap.size W1 W2 (by kernel_rfl) (by repeat (first | exact Below.refl _ _ | apply Below.drew)) ?_
      first | refine wpZ_skip 0 rfl (by kernel_rfl) (by kernel_rfl) (by kernel_rfl) (by rfl) (by decide) ?_ | (refine wpZ_text 0 (v := ?_) rfl (by kernel_rfl) (by kernel_rfl) (by kernel_rfl) (by rfl) (by decide) (fun X hX W k1 => ?_) ?_; rotate_left; (obtain ⟨hX0, x0, x1, x2, x3⟩ := FX.out X hX; obtain ⟨hc1, hf1⟩ := bcellN k1; go_simp; refine comes_v ?_; exact k1))
      (try simp only [Act.put, List.setIfInBounds_toArray, List.set_cons_zero, List.set_cons_succ])
      first | refine wpZ_skip 1 rfl (by kernel_rfl) (by kernel_rfl) (by kernel_rfl) (by rfl) (by decide) ?_ | (refine wpZ_text 1 (v := ?_) rfl (by kernel_rfl) (by kernel_rfl) (by kernel_rfl) (by rfl) (by decide) (fun X hX W k1 => ?_) ?_; rotate_left; (obtain ⟨hX0, x0, x1, x2, x3⟩ := FX.out X hX; obtain ⟨hc1, hf1⟩ := bcellN k1; go_simp; refine comes_v ?_; exact k1))
      (try simp only [Act.put, List.setIfInBounds_toArray, List.set_cons_zero, List.set_cons_succ])
      first | refine wpZ_skip 2 rfl (by kernel_rfl) (by kernel_rfl) (by kernel_rfl) (by rfl) (by decide) ?_ | (refine wpZ_text 2 (v := ?_) rfl (by kernel_rfl) (by kernel_rfl) (by kernel_rfl) (by rfl) (by decide) (fun X hX W k1 => ?_) ?_; rotate_left; (obtain ⟨hX0, x0, x1, x2, x3⟩ := FX.out X hX; obtain ⟨hc1, hf1⟩ := bcellN k1; go_simp; refine comes_v ?_; exact k1))
      (try simp only [Act.put, List.setIfInBounds_toArray, List.set_cons_zero, List.set_cons_succ])
      first | refine wpZ_skip 3 rfl (by kernel_rfl) (by kernel_rfl) (by kernel_rfl) (by rfl) (by decide) ?_ | (refine wpZ_text 3 (v := .agg #[.int .i64 m1, .int .i64 m2]) rfl (by kernel_rfl) (by kernel_rfl) (by kernel_rfl) (by rfl) (by decide) (fun X hX W k1 => ?_) ?_; (obtain ⟨hX0, x0, x1, x2, x3⟩ := FX.out X hX; obtain ⟨hc1, hf1⟩ := bcellN k1; go_simp; exact comes_c ( K.out _) (fun wn hbn => k1.trans (hbn.mono (Nat.le_trans hX0 k1.size)))))
      (try simp only [Act.put, List.setIfInBounds_toArray, List.set_cons_zero, List.set_cons_succ])
      first | refine wpZ_skip 4 rfl (by kernel_rfl) (by kernel_rfl) (by kernel_rfl) (by rfl) (by decide) ?_ | (refine wpZ_text 4 (v := ?_) rfl (by kernel_rfl) (by kernel_rfl) (by kernel_rfl) (by rfl) (by decide) (fun X hX W k1 => ?_) ?_; rotate_left; (obtain ⟨hX0, x0, x1, x2, x3⟩ := FX.out X hX; obtain ⟨hc1, hf1⟩ := bcellN k1; go_simp; refine comes_v ?_; exact k1))
      (try simp only [Act.put, List.setIfInBounds_toArray, List.set_cons_zero, List.set_cons_succ])
      first | refine wpZ_skip 5 rfl (by kernel_rfl) (by kernel_rfl) (by kernel_rfl) (by rfl) (by decide) ?_ | (refine wpZ_text 5 (v := ?_) rfl (by kernel_rfl) (by kernel_rfl) (by kernel_rfl) (by rfl) (by decide) (fun X hX W k1 => ?_) ?_; rotate_left; (obtain ⟨hX0, x0, x1, x2, x3⟩ := FX.out X hX; obtain ⟨hc1, hf1⟩ := bcellN k1; go_simp; refine comes_v ?_; exact k1))
      (try simp only [Act.put, List.setIfInBounds_toArray, List.set_cons_zero, List.set_cons_succ])
      (refine wpZ_store (v := undef) rfl (by kernel_rfl) (by kernel_rfl) (by kernel_rfl) (by rfl) (fun W k1 => ?_) ?_; (obtain ⟨hc1, hf1⟩ := bcellN k1; go_simp; refine ⟨rfl, ?_⟩; rw [HW2.out]; exact below_set2 (below_set2 k1 _ _ zB) _ _ zB))
      (try simp only [Act.put, List.setIfInBounds_toArray, List.set_cons_zero, List.set_cons_succ])
      first | refine wpZ_skip 7 rfl (by kernel_rfl) (by kernel_rfl) (by kernel_rfl) (by rfl) (by decide) ?_ | (refine wpZ_text 7 (v := ?_) rfl (by kernel_rfl) (by kernel_rfl) (by kernel_rfl) (by rfl) (by decide) (fun X hX W k1 => ?_) ?_; rotate_left; (obtain ⟨hX0, x0, x1, x2, x3⟩ := FX.out X hX; obtain ⟨hc1, hf1⟩ := bcellN k1; go_simp; refine comes_v ?_; exact k1))
      (try simp only [Act.put, List.setIfInBounds_toArray, List.set_cons_zero, List.set_cons_succ])
      refine wpZ_done (by kernel_rfl) (by kernel_rfl) ?_ _
      intro W k1; obtain ⟨hc1, hf1⟩ := bcellN k1
      have B1 : Below w.heap.size w W := BW2.trans (k1.mono (by omega))
      go_wp2_with fail
      refine bodyPost_ret (v := .tuple #[.agg #[.int .i64 (m1.tdiv n), .int .i64 (m2.tdiv n)], .bool true]) (by simp [results, Try.results89, go_sem, hc1, zB, s0, s1]) rfl ⟨by simp , ?_⟩
      repeat (first | with_reducible assumption | with_reducible exact Below.refl _ _ | with_reducible apply Below.drew | ((with_reducible refine Below.setCell ?_ ?_ _); rotate_left; (first | exact Nat.le_refl _ | omega | (simp <;> omega))) | ((with_reducible refine Below.alloc ?_ ?_ _); rotate_left; (first | omega | (simp <;> omega))))
    · subst c1
      go_enter Try.func89, Try.ntmps89
      go_wp2_with fail
      obtain ⟨W0, hW0⟩ : ∃ W0, W0 = ((w.alloc (.cells #[.int .i64 m1, .int .i64 p2] 34)).alloc (.cells #[.int .i64 0, .int .i64 0] 34)) := ⟨_, rfl⟩
      rw [← hW0]
      have yW00_0 : W0.cell? ⟨w.heap.size, 0, none⟩ = some (.int .i64 m1) := by rw [hW0]; go_simp
      have yW00_1 : W0.cell? ⟨w.heap.size, 1, none⟩ = some (.int .i64 p2) := by rw [hW0]; go_simp
      have fW00 : ∀ o, W0.frozen? ⟨w.heap.size, o, none⟩ = false := by intro o; rw [hW0]; (repeat rw [frozen?_alloc_cells]); simp [World.frozen?]
      have zW00 : w.heap.size < W0.heap.size := by rw [hW0]; simp <;> omega
      have yW01_0 : W0.cell? ⟨w.heap.size + 1, 0, none⟩ = some (.int .i64 0) := by rw [hW0]; go_simp
      have yW01_1 : W0.cell? ⟨w.heap.size + 1, 1, none⟩ = some (.int .i64 0) := by rw [hW0]; go_simp
      have fW01 : ∀ o, W0.frozen? ⟨w.heap.size + 1, o, none⟩ = false := by intro o; rw [hW0]; (repeat rw [frozen?_alloc_cells]); simp [World.frozen?]
      have zW01 : w.heap.size + 1 < W0.heap.size := by rw [hW0]; simp <;> omega
      have BW0 : Below w.heap.size w W0 := by rw [hW0]; exact (Below.alloc (Below.alloc (Below.refl _ _) (by simp <;> omega) _) (by simp <;> omega) _)
      have eW0 : Hid (W0.heap.size = w.heap.size + 2) := Lib.hid (by rw [hW0]; simp)
      clear hW0
      go_region
      obtain ⟨W1, hW1⟩ : ∃ W1, W1 = (W0.alloc (.cells #[.int .i64 (m1.tdiv n), .int .i64 (p2.tdiv n)] 34)) := ⟨_, rfl⟩
      rw [← hW1]
      have yW10_0 : W1.cell? ⟨W0.heap.size, 0, none⟩ = some (.int .i64 (m1.tdiv n)) := by rw [hW1]; go_simp
      have yW10_1 : W1.cell? ⟨W0.heap.size, 1, none⟩ = some (.int .i64 (p2.tdiv n)) := by rw [hW1]; go_simp
      have fW10 : ∀ o, W1.frozen? ⟨W0.heap.size, o, none⟩ = false := by intro o; rw [hW1]; (repeat rw [frozen?_alloc_cells]); simp [World.frozen?]
      have zW10 : W0.heap.size < W1.heap.size := by rw [hW1]; simp <;> omega
      have BW1 : Below W0.heap.size W0 W1 := by rw [hW1]; exact (Below.alloc (Below.refl _ _) (by simp <;> omega) _)
      have eW1 : Hid (W1.heap.size = W0.heap.size + 1) := Lib.hid (by rw [hW1]; simp)
      clear hW1
      obtain ⟨hcA, hfA⟩ := bcell BW1
      have zA : w.heap.size < W1.heap.size := by omega
      have zB : w.heap.size + 1 < W1.heap.size := by omega
      have r0 := (hcA _ _ zW00).trans yW00_0
      have r1 := (hcA _ _ zW00).trans yW00_1
      have r2 := (hcA _ _ zW01).trans yW01_0
      have r3 := (hcA _ _ zW01).trans yW01_1
      have r4 : ∀ o, W1.frozen? ⟨w.heap.size + 1, o, none⟩ = false := fun o => (hfA _ _ zW01).trans (fW01 o)
      clear hcA hfA
      obtain ⟨W2, hW2⟩ : ∃ W2, W2 = (W1.setCell ⟨w.heap.size + 1, 0, none⟩ (.int .i64 (m1.tdiv n))).setCell ⟨w.heap.size + 1, 1, none⟩ (.int .i64 (p2.tdiv n)) := ⟨_, rfl⟩
      have ne : w.heap.size ≠ w.heap.size + 1 := by omega
      have ne2 : W0.heap.size ≠ w.heap.size + 1 := by omega
      have FX : Hid (∀ X, (X = W1 ∨ X = W2) → W1.heap.size ≤ X.heap.size ∧ X.cell? ⟨w.heap.size, 0, none⟩ = some (.int .i64 m1) ∧ X.cell? ⟨w.heap.size, 1, none⟩ = some (.int .i64 p2) ∧ X.cell? ⟨W0.heap.size, 0, none⟩ = some (.int .i64 (m1.tdiv n)) ∧ X.cell? ⟨W0.heap.size, 1, none⟩ = some (.int .i64 (p2.tdiv n))) := Lib.hid (fun X hX => by
        rcases hX with rfl | rfl
        · exact ⟨Nat.le_refl _, r0, r1, yW10_0, yW10_1⟩
        · rw [hW2]
          have o : ∀ (bb oo : Nat), bb ≠ w.heap.size + 1 → ((W1.setCell ⟨w.heap.size + 1, 0, none⟩ (.int .i64 (m1.tdiv n))).setCell ⟨w.heap.size + 1, 1, none⟩ (.int .i64 (p2.tdiv n))).cell? ⟨bb, oo, none⟩ = W1.cell? ⟨bb, oo, none⟩ := fun bb oo hh => by
            rw [World.cell?_setCell_other _ _ _ _ (fun e => hh (by injection e with e1 e2; exact e1.symm)), World.cell?_setCell_other _ _ _ _ (fun e => hh (by injection e with e1 e2; exact e1.symm))]
          exact ⟨by simp [World.setCell], (o _ _ ne).trans r0, (o _ _ ne).trans r1, (o _ _ ne2).trans yW10_0, (o _ _ ne2).trans yW10_1⟩)
      have HW2 := Lib.hid hW2
      have BW2 : Below w.heap.size w W2 := by
        rw [hW2]
        exact Below.setCell (Below.setCell (BW0.trans (BW1.mono BW0.size)) (by simp) _) (by simp) _
      have s0 : W2.cell? ⟨w.heap.size + 1, 0, none⟩ = some (.int .i64 (m1.tdiv n)) := by
        rw [hW2, World.cell?_setCell_other _ _ _ _ (fun e => by injection e with e1 e2; cases e2), World.cell?_setCell_same _ _ _ r2]
      have s1 : W2.cell? ⟨w.heap.size + 1, 1, none⟩ = some (.int .i64 (p2.tdiv n)) := by
        rw [hW2]
        exact World.cell?_setCell_same _ _ _ (show (W1.setCell ⟨w.heap.size + 1, 0, none⟩ (.int .i64 (m1.tdiv n))).cell? ⟨w.heap.size + 1, 1, none⟩ = some (.int .i64 0) by rw [World.cell?_setCell_other _ _ _ _ (fun e => by injection e with e1 e2; cases e2)]; exact r3)
      clear hW2
      go_wp2_with fail
      refine wp_region_Z 6 W1.heap.size W1 W2 (by kernel_rfl) (by repeat (first | exact Below.refl _ _ | apply Below.drew)) ?_
      first | refine wpZ_skip 0 rfl (by kernel_rfl) (by kernel_rfl) (by kernel_rfl) (by rfl) (by decide) ?_ | (refine wpZ_text 0 (v := ?_) rfl (by kernel_rfl) (by kernel_rfl) (by kernel_rfl) (by rfl) (by decide) (fun X hX W k1 => ?_) ?_; rotate_left; (obtain ⟨hX0, x0, x1, x2, x3⟩ := FX.out X hX; obtain ⟨hc1, hf1⟩ := bcellN k1; go_simp; refine comes_v ?_; exact k1))
      (try simp only [Act.put, List.setIfInBounds_toArray, List.set_cons_zero, List.set_cons_succ])
      first | refine wpZ_skip 1 rfl (by kernel_rfl) (by kernel_rfl) (by kernel_rfl) (by rfl) (by decide) ?_ | (refine wpZ_text 1 (v := ?_) rfl (by kernel_rfl) (by kernel_rfl) (by kernel_rfl) (by rfl) (by decide) (fun X hX W k1 => ?_) ?_; rotate_left; (obtain ⟨hX0, x0, x1, x2, x3⟩ := FX.out X hX; obtain ⟨hc1, hf1⟩ := bcellN k1; go_simp; refine comes_v ?_; exact k1))
      (try simp only [Act.put, List.setIfInBounds_toArray, List.set_cons_zero, List.set_cons_succ])
      first | refine wpZ_skip 2 rfl (by kernel_rfl) (by kernel_rfl) (by kernel_rfl) (by rfl) (by decide) ?_ | (refine wpZ_text 2 (v := ?_) rfl (by kernel_rfl) (by kernel_rfl) (by kernel_rfl) (by rfl) (by decide) (fun X hX W k1 => ?_) ?_; rotate_left; (obtain ⟨hX0, x0, x1, x2, x3⟩ := FX.out X hX; obtain ⟨hc1, hf1⟩ := bcellN k1; go_simp; refine comes_v ?_; exact k1))
      (try simp only [Act.put, List.setIfInBounds_toArray, List.set_cons_zero, List.set_cons_succ])
      first | refine wpZ_skip 3 rfl (by kernel_rfl) (by kernel_rfl) (by kernel_rfl) (by rfl) (by decide) ?_ | (refine wpZ_text 3 (v := .agg #[.int .i64 m1, .int .i64 m2]) rfl (by kernel_rfl) (by kernel_rfl) (by kernel_rfl) (by rfl) (by decide) (fun X hX W k1 => ?_) ?_; (obtain ⟨hX0, x0, x1, x2, x3⟩ := FX.out X hX; obtain ⟨hc1, hf1⟩ := bcellN k1; go_simp; exact comes_c ( K.out _) (fun wn hbn => k1.trans (hbn.mono (Nat.le_trans hX0 k1.size)))))
      (try simp only [Act.put, List.setIfInBounds_toArray, List.set_cons_zero, List.set_cons_succ])
      first | refine wpZ_skip 4 rfl (by kernel_rfl) (by kernel_rfl) (by kernel_rfl) (by rfl) (by decide) ?_ | (refine wpZ_text 4 (v := ?_) rfl (by kernel_rfl) (by kernel_rfl) (by kernel_rfl) (by rfl) (by decide) (fun X hX W k1 => ?_) ?_; rotate_left; (obtain ⟨hX0, x0, x1, x2, x3⟩ := FX.out X hX; obtain ⟨hc1, hf1⟩ := bcellN k1; go_simp; refine comes_v ?_; exact k1))
      (try simp only [Act.put, List.setIfInBounds_toArray, List.set_cons_zero, List.set_cons_succ])
      first | refine wpZ_skip 5 rfl (by kernel_rfl) (by kernel_rfl) (by kernel_rfl) (by rfl) (by decide) ?_ | (refine wpZ_text 5 (v := ?_) rfl (by kernel_rfl) (by kernel_rfl) (by kernel_rfl) (by rfl) (by decide) (fun X hX W k1 => ?_) ?_; rotate_left; (obtain ⟨hX0, x0, x1, x2, x3⟩ := FX.out X hX; obtain ⟨hc1, hf1⟩ := bcellN k1; go_simp; refine comes_v ?_; exact k1))
      (try simp only [Act.put, List.setIfInBounds_toArray, List.set_cons_zero, List.set_cons_succ])
      (refine wpZ_store (v := undef) rfl (by kernel_rfl) (by kernel_rfl) (by kernel_rfl) (by rfl) (fun W k1 => ?_) ?_; (obtain ⟨hc1, hf1⟩ := bcellN k1; go_simp; refine ⟨rfl, ?_⟩; rw [HW2.out]; exact below_set2 (below_set2 k1 _ _ zB) _ _ zB))
      (try simp only [Act.put, List.setIfInBounds_toArray, List.set_cons_zero, List.set_cons_succ])
      first | refine wpZ_skip 7 rfl (by kernel_rfl) (by kernel_rfl) (by kernel_rfl) (by rfl) (by decide) ?_ | (refine wpZ_text 7 (v := ?_) rfl (by kernel_rfl) (by kernel_rfl) (by kernel_rfl) (by rfl) (by decide) (fun X hX W k1 => ?_) ?_; rotate_left; (obtain ⟨hX0, x0, x1, x2, x3⟩ := FX.out X hX; obtain ⟨hc1, hf1⟩ := bcellN k1; go_simp; refine comes_v ?_; exact k1))
      (try simp only [Act.put, List.setIfInBounds_toArray, List.set_cons_zero, List.set_cons_succ])
      refine wpZ_done (by kernel_rfl) (by kernel_rfl) ?_ _
      intro W k1; obtain ⟨hc1, hf1⟩ := bcellN k1
      have B1 : Below w.heap.size w W := BW2.trans (k1.mono (by omega))
      go_wp2_with fail
      refine bodyPost_ret (v := .tuple #[.agg #[.int .i64 (m1.tdiv n), .int .i64 (p2.tdiv n)], .bool false]) (by simp [results, Try.results89, go_sem, hc1, zB, s0, s1]) rfl ⟨by simp [c2], ?_⟩
      repeat (first | with_reducible assumption | with_reducible exact Below.refl _ _ | with_reducible apply Below.drew | ((with_reducible refine Below.setCell ?_ ?_ _); rotate_left; (first | exact Nat.le_refl _ | omega | (simp <;> omega))) | ((with_reducible refine Below.alloc ?_ ?_ _); rotate_left; (first | omega | (simp <;> omega))))
  · by_cases c2 : m2 = p2
    · subst c2
      go_enter Try.func89, Try.ntmps89
      go_wp2_with fail
      obtain ⟨W0, hW0⟩ : ∃ W0, W0 = ((w.alloc (.cells #[.int .i64 p1, .int .i64 m2] 34)).alloc (.cells #[.int .i64 0, .int .i64 0] 34)) := ⟨_, rfl⟩
      rw [← hW0]
      have yW00_0 : W0.cell? ⟨w.heap.size, 0, none⟩ = some (.int .i64 p1) := by rw [hW0]; go_simp
      have yW00_1 : W0.cell? ⟨w.heap.size, 1, none⟩ = some (.int .i64 m2) := by rw [hW0]; go_simp
      have fW00 : ∀ o, W0.frozen? ⟨w.heap.size, o, none⟩ = false := by intro o; rw [hW0]; (repeat rw [frozen?_alloc_cells]); simp [World.frozen?]
      have zW00 : w.heap.size < W0.heap.size := by rw [hW0]; simp <;> omega
      have yW01_0 : W0.cell? ⟨w.heap.size + 1, 0, none⟩ = some (.int .i64 0) := by rw [hW0]; go_simp
      have yW01_1 : W0.cell? ⟨w.heap.size + 1, 1, none⟩ = some (.int .i64 0) := by rw [hW0]; go_simp
      have fW01 : ∀ o, W0.frozen? ⟨w.heap.size + 1, o, none⟩ = false := by intro o; rw [hW0]; (repeat rw [frozen?_alloc_cells]); simp [World.frozen?]
      have zW01 : w.heap.size + 1 < W0.heap.size := by rw [hW0]; simp <;> omega
      have BW0 : Below w.heap.size w W0 := by rw [hW0]; exact (Below.alloc (Below.alloc (Below.refl _ _) (by simp <;> omega) _) (by simp <;> omega) _)
      have eW0 : Hid (W0.heap.size = w.heap.size + 2) := Lib.hid (by rw [hW0]; simp)
      clear hW0
      go_region
      obtain ⟨W1, hW1⟩ : ∃ W1, W1 = (W0.alloc (.cells #[.int .i64 (p1.tdiv n), .int .i64 (m2.tdiv n)] 34)) := ⟨_, rfl⟩
      rw [← hW1]
      have yW10_0 : W1.cell? ⟨W0.heap.size, 0, none⟩ = some (.int .i64 (p1.tdiv n)) := by rw [hW1]; go_simp
      have yW10_1 : W1.cell? ⟨W0.heap.size, 1, none⟩ = some (.int .i64 (m2.tdiv n)) := by rw [hW1]; go_simp
      have fW10 : ∀ o, W1.frozen? ⟨W0.heap.size, o, none⟩ = false := by intro o; rw [hW1]; (repeat rw [frozen?_alloc_cells]); simp [World.frozen?]
      have zW10 : W0.heap.size < W1.heap.size := by rw [hW1]; simp <;> omega
      have BW1 : Below W0.heap.size W0 W1 := by rw [hW1]; exact (Below.alloc (Below.refl _ _) (by simp <;> omega) _)
      have eW1 : Hid (W1.heap.size = W0.heap.size + 1) := Lib.hid (by rw [hW1]; simp)
      clear hW1
      obtain ⟨hcA, hfA⟩ := bcell BW1
      have zA : w.heap.size < W1.heap.size := by omega
      have zB : w.heap.size + 1 < W1.heap.size := by omega
      have r0 := (hcA _ _ zW00).trans yW00_0
      have r1 := (hcA _ _ zW00).trans yW00_1
      have r2 := (hcA _ _ zW01).trans yW01_0
      have r3 := (hcA _ _ zW01).trans yW01_1
      have r4 : ∀ o, W1.frozen? ⟨w.heap.size + 1, o, none⟩ = false := fun o => (hfA _ _ zW01).trans (fW01 o)
      clear hcA hfA
      obtain ⟨W2, hW2⟩ : ∃ W2, W2 = (W1.setCell ⟨w.heap.size + 1, 0, none⟩ (.int .i64 (p1.tdiv n))).setCell ⟨w.heap.size + 1, 1, none⟩ (.int .i64 (m2.tdiv n)) := ⟨_, rfl⟩
      have ne : w.heap.size ≠ w.heap.size + 1 := by omega
      have ne2 : W0.heap.size ≠ w.heap.size + 1 := by omega
      have FX : Hid (∀ X, (X = W1 ∨ X = W2) → W1.heap.size ≤ X.heap.size ∧ X.cell? ⟨w.heap.size, 0, none⟩ = some (.int .i64 p1) ∧ X.cell? ⟨w.heap.size, 1, none⟩ = some (.int .i64 m2) ∧ X.cell? ⟨W0.heap.size, 0, none⟩ = some (.int .i64 (p1.tdiv n)) ∧ X.cell? ⟨W0.heap.size, 1, none⟩ = some (.int .i64 (m2.tdiv n))) := Lib.hid (fun X hX => by
        rcases hX with rfl | rfl
        · exact ⟨Nat.le_refl _, r0, r1, yW10_0, yW10_1⟩
        · rw [hW2]
          have o : ∀ (bb oo : Nat), bb ≠ w.heap.size + 1 → ((W1.setCell ⟨w.heap.size + 1, 0, none⟩ (.int .i64 (p1.tdiv n))).setCell ⟨w.heap.size + 1, 1, none⟩ (.int .i64 (m2.tdiv n))).cell? ⟨bb, oo, none⟩ = W1.cell? ⟨bb, oo, none⟩ := fun bb oo hh => by
            rw [World.cell?_setCell_other _ _ _ _ (fun e => hh (by injection e with e1 e2; exact e1.symm)), World.cell?_setCell_other _ _ _ _ (fun e => hh (by injection e with e1 e2; exact e1.symm))]
          exact ⟨by simp [World.setCell], (o _ _ ne).trans r0, (o _ _ ne).trans r1, (o _ _ ne2).trans yW10_0, (o _ _ ne2).trans yW10_1⟩)
      have HW2 := Lib.hid hW2
      have BW2 : Below w.heap.size w W2 := by
        rw [hW2]
        exact Below.setCell (Below.setCell (BW0.trans (BW1.mono BW0.size)) (by simp) _) (by simp) _
      have s0 : W2.cell? ⟨w.heap.size + 1, 0, none⟩ = some (.int .i64 (p1.tdiv n)) := by
        rw [hW2, World.cell?_setCell_other _ _ _ _ (fun e => by injection e with e1 e2; cases e2), World.cell?_setCell_same _ _ _ r2]
      have s1 : W2.cell? ⟨w.heap.size + 1, 1, none⟩ = some (.int .i64 (m2.tdiv n)) := by
        rw [hW2]
        exact World.cell?_setCell_same _ _ _ (show (W1.setCell ⟨w.heap.size + 1, 0, none⟩ (.int .i64 (p1.tdiv n))).cell? ⟨w.heap.size + 1, 1, none⟩ = some (.int .i64 0) by rw [World.cell?_setCell_other _ _ _ _ (fun e => by injection e with e1 e2; cases e2)]; exact r3)
      clear hW2
      go_wp2_with fail
      refine wp_region_Z 6 W1.heap.size W1 W2 (by kernel_rfl) (by repeat (first | exact Below.refl _ _ | apply Below.drew)) ?_
      first | refine wpZ_skip 0 rfl (by kernel_rfl) (by kernel_rfl) (by kernel_rfl) (by rfl) (by decide) ?_ | (refine wpZ_text 0 (v := ?_) rfl (by kernel_rfl) (by kernel_rfl) (by kernel_rfl) (by rfl) (by decide) (fun X hX W k1 => ?_) ?_; rotate_left; (obtain ⟨hX0, x0, x1, x2, x3⟩ := FX.out X hX; obtain ⟨hc1, hf1⟩ := bcellN k1; go_simp; refine comes_v ?_; exact k1))
      (try simp only [Act.put, List.setIfInBounds_toArray, List.set_cons_zero, List.set_cons_succ])
      first | refine wpZ_skip 1 rfl (by kernel_rfl) (by kernel_rfl) (by kernel_rfl) (by rfl) (by decide) ?_ | (refine wpZ_text 1 (v := ?_) rfl (by kernel_rfl) (by kernel_rfl) (by kernel_rfl) (by rfl) (by decide) (fun X hX W k1 => ?_) ?_; rotate_left; (obtain ⟨hX0, x0, x1, x2, x3⟩ := FX.out X hX; obtain ⟨hc1, hf1⟩ := bcellN k1; go_simp; refine comes_v ?_; exact k1))
      (try simp only [Act.put, List.setIfInBounds_toArray, List.set_cons_zero, List.set_cons_succ])
      first | refine wpZ_skip 2 rfl (by kernel_rfl) (by kernel_rfl) (by kernel_rfl) (by rfl) (by decide) ?_ | (refine wpZ_text 2 (v := ?_) rfl (by kernel_rfl) (by kernel_rfl) (by kernel_rfl) (by rfl) (by decide) (fun X hX W k1 => ?_) ?_; rotate_left; (obtain ⟨hX0, x0, x1, x2, x3⟩ := FX.out X hX; obtain ⟨hc1, hf1⟩ := bcellN k1; go_simp; refine comes_v ?_; exact k1))
      (try simp only [Act.put, List.setIfInBounds_toArray, List.set_cons_zero, List.set_cons_succ])
      first | refine wpZ_skip 3 rfl (by kernel_rfl) (by kernel_rfl) (by kernel_rfl) (by rfl) (by decide) ?_ | (refine wpZ_text 3 (v := .agg #[.int .i64 m1, .int .i64 m2]) rfl (by kernel_rfl) (by kernel_rfl) (by kernel_rfl) (by rfl) (by decide) (fun X hX W k1 => ?_) ?_; (obtain ⟨hX0, x0, x1, x2, x3⟩ := FX.out X hX; obtain ⟨hc1, hf1⟩ := bcellN k1; go_simp; exact comes_c ( K.out _) (fun wn hbn => k1.trans (hbn.mono (Nat.le_trans hX0 k1.size)))))
      (try simp only [Act.put, List.setIfInBounds_toArray, List.set_cons_zero, List.set_cons_succ])
      first | refine wpZ_skip 4 rfl (by kernel_rfl) (by kernel_rfl) (by kernel_rfl) (by rfl) (by decide) ?_ | (refine wpZ_text 4 (v := ?_) rfl (by kernel_rfl) (by kernel_rfl) (by kernel_rfl) (by rfl) (by decide) (fun X hX W k1 => ?_) ?_; rotate_left; (obtain ⟨hX0, x0, x1, x2, x3⟩ := FX.out X hX; obtain ⟨hc1, hf1⟩ := bcellN k1; go_simp; refine comes_v ?_; exact k1))
      (try simp only [Act.put, List.setIfInBounds_toArray, List.set_cons_zero, List.set_cons_succ])
      first | refine wpZ_skip 5 rfl (by kernel_rfl) (by kernel_rfl) (by kernel_rfl) (by rfl) (by decide) ?_ | (refine wpZ_text 5 (v := ?_) rfl (by kernel_rfl) (by kernel_rfl) (by kernel_rfl) (by rfl) (by decide) (fun X hX W k1 => ?_) ?_; rotate_left; (obtain ⟨hX0, x0, x1, x2, x3⟩ := FX.out X hX; obtain ⟨hc1, hf1⟩ := bcellN k1; go_simp; refine comes_v ?_; exact k1))
      (try simp only [Act.put, List.setIfInBounds_toArray, List.set_cons_zero, List.set_cons_succ])
      (refine wpZ_store (v := undef) rfl (by kernel_rfl) (by kernel_rfl) (by kernel_rfl) (by rfl) (fun W k1 => ?_) ?_; (obtain ⟨hc1, hf1⟩ := bcellN k1; go_simp; refine ⟨rfl, ?_⟩; rw [HW2.out]; exact below_set2 (below_set2 k1 _ _ zB) _ _ zB))
      (try simp only [Act.put, List.setIfInBounds_toArray, List.set_cons_zero, List.set_cons_succ])
      first | refine wpZ_skip 7 rfl (by kernel_rfl) (by kernel_rfl) (by kernel_rfl) (by rfl) (by decide) ?_ | (refine wpZ_text 7 (v := ?_) rfl (by kernel_rfl) (by kernel_rfl) (by kernel_rfl) (by rfl) (by decide) (fun X hX W k1 => ?_) ?_; rotate_left; (obtain ⟨hX0, x0, x1, x2, x3⟩ := FX.out X hX; obtain ⟨hc1, hf1⟩ := bcellN k1; go_simp; refine comes_v ?_; exact k1))
      (try simp only [Act.put, List.setIfInBounds_toArray, List.set_cons_zero, List.set_cons_succ])
      refine wpZ_done (by kernel_rfl) (by kernel_rfl) ?_ _
      intro W k1; obtain ⟨hc1, hf1⟩ := bcellN k1
      have B1 : Below w.heap.size w W := BW2.trans (k1.mono (by omega))
      go_wp2_with fail
      refine bodyPost_ret (v := .tuple #[.agg #[.int .i64 (p1.tdiv n), .int .i64 (m2.tdiv n)], .bool false]) (by simp [results, Try.results89, go_sem, hc1, zB, s0, s1]) rfl ⟨by simp [c1], ?_⟩
      repeat (first | with_reducible assumption | with_reducible exact Below.refl _ _ | with_reducible apply Below.drew | ((with_reducible refine Below.setCell ?_ ?_ _); rotate_left; (first | exact Nat.le_refl _ | omega | (simp <;> omega))) | ((with_reducible refine Below.alloc ?_ ?_ _); rotate_left; (first | omega | (simp <;> omega))))
    · skip
      go_enter Try.func89, Try.ntmps89
      go_wp2_with fail
      obtain ⟨W0, hW0⟩ : ∃ W0, W0 = ((w.alloc (.cells #[.int .i64 p1, .int .i64 p2] 34)).alloc (.cells #[.int .i64 0, .int .i64 0] 34)) := ⟨_, rfl⟩
      rw [← hW0]
      have yW00_0 : W0.cell? ⟨w.heap.size, 0, none⟩ = some (.int .i64 p1) := by rw [hW0]; go_simp
      have yW00_1 : W0.cell? ⟨w.heap.size, 1, none⟩ = some (.int .i64 p2) := by rw [hW0]; go_simp
      have fW00 : ∀ o, W0.frozen? ⟨w.heap.size, o, none⟩ = false := by intro o; rw [hW0]; (repeat rw [frozen?_alloc_cells]); simp [World.frozen?]
      have zW00 : w.heap.size < W0.heap.size := by rw [hW0]; simp <;> omega
      have yW01_0 : W0.cell? ⟨w.heap.size + 1, 0, none⟩ = some (.int .i64 0) := by rw [hW0]; go_simp
      have yW01_1 : W0.cell? ⟨w.heap.size + 1, 1, none⟩ = some (.int .i64 0) := by rw [hW0]; go_simp
      have fW01 : ∀ o, W0.frozen? ⟨w.heap.size + 1, o, none⟩ = false := by intro o; rw [hW0]; (repeat rw [frozen?_alloc_cells]); simp [World.frozen?]
      have zW01 : w.heap.size + 1 < W0.heap.size := by rw [hW0]; simp <;> omega
      have BW0 : Below w.heap.size w W0 := by rw [hW0]; exact (Below.alloc (Below.alloc (Below.refl _ _) (by simp <;> omega) _) (by simp <;> omega) _)
      have eW0 : Hid (W0.heap.size = w.heap.size + 2) := Lib.hid (by rw [hW0]; simp)
      clear hW0
      go_region
      obtain ⟨W1, hW1⟩ : ∃ W1, W1 = (W0.alloc (.cells #[.int .i64 (p1.tdiv n), .int .i64 (p2.tdiv n)] 34)) := ⟨_, rfl⟩
      rw [← hW1]
      have yW10_0 : W1.cell? ⟨W0.heap.size, 0, none⟩ = some (.int .i64 (p1.tdiv n)) := by rw [hW1]; go_simp
      have yW10_1 : W1.cell? ⟨W0.heap.size, 1, none⟩ = some (.int .i64 (p2.tdiv n)) := by rw [hW1]; go_simp
      have fW10 : ∀ o, W1.frozen? ⟨W0.heap.size, o, none⟩ = false := by intro o; rw [hW1]; (repeat rw [frozen?_alloc_cells]); simp [World.frozen?]
      have zW10 : W0.heap.size < W1.heap.size := by rw [hW1]; simp <;> omega
      have BW1 : Below W0.heap.size W0 W1 := by rw [hW1]; exact (Below.alloc (Below.refl _ _) (by simp <;> omega) _)
      have eW1 : Hid (W1.heap.size = W0.heap.size + 1) := Lib.hid (by rw [hW1]; simp)
      clear hW1
      obtain ⟨hcA, hfA⟩ := bcell BW1
      have zA : w.heap.size < W1.heap.size := by omega
      have zB : w.heap.size + 1 < W1.heap.size := by omega
      have r0 := (hcA _ _ zW00).trans yW00_0
      have r1 := (hcA _ _ zW00).trans yW00_1
      have r2 := (hcA _ _ zW01).trans yW01_0
      have r3 := (hcA _ _ zW01).trans yW01_1
      have r4 : ∀ o, W1.frozen? ⟨w.heap.size + 1, o, none⟩ = false := fun o => (hfA _ _ zW01).trans (fW01 o)
      clear hcA hfA
      obtain ⟨W2, hW2⟩ : ∃ W2, W2 = (W1.setCell ⟨w.heap.size + 1, 0, none⟩ (.int .i64 (p1.tdiv n))).setCell ⟨w.heap.size + 1, 1, none⟩ (.int .i64 (p2.tdiv n)) := ⟨_, rfl⟩
      have ne : w.heap.size ≠ w.heap.size + 1 := by omega
      have ne2 : W0.heap.size ≠ w.heap.size + 1 := by omega
      have FX : Hid (∀ X, (X = W1 ∨ X = W2) → W1.heap.size ≤ X.heap.size ∧ X.cell? ⟨w.heap.size, 0, none⟩ = some (.int .i64 p1) ∧ X.cell? ⟨w.heap.size, 1, none⟩ = some (.int .i64 p2) ∧ X.cell? ⟨W0.heap.size, 0, none⟩ = some (.int .i64 (p1.tdiv n)) ∧ X.cell? ⟨W0.heap.size, 1, none⟩ = some (.int .i64 (p2.tdiv n))) := Lib.hid (fun X hX => by
        rcases hX with rfl | rfl
        · exact ⟨Nat.le_refl _, r0, r1, yW10_0, yW10_1⟩
        · rw [hW2]
          have o : ∀ (bb oo : Nat), bb ≠ w.heap.size + 1 → ((W1.setCell ⟨w.heap.size + 1, 0, none⟩ (.int .i64 (p1.tdiv n))).setCell ⟨w.heap.size + 1, 1, none⟩ (.int .i64 (p2.tdiv n))).cell? ⟨bb, oo, none⟩ = W1.cell? ⟨bb, oo, none⟩ := fun bb oo hh => by
            rw [World.cell?_setCell_other _ _ _ _ (fun e => hh (by injection e with e1 e2; exact e1.symm)), World.cell?_setCell_other _ _ _ _ (fun e => hh (by injection e with e1 e2; exact e1.symm))]
          exact ⟨by simp [World.setCell], (o _ _ ne).trans r0, (o _ _ ne).trans r1, (o _ _ ne2).trans yW10_0, (o _ _ ne2).trans yW10_1⟩)
      have HW2 := Lib.hid hW2
      have BW2 : Below w.heap.size w W2 := by
        rw [hW2]
        exact Below.setCell (Below.setCell (BW0.trans (BW1.mono BW0.size)) (by simp) _) (by simp) _
      have s0 : W2.cell? ⟨w.heap.size + 1, 0, none⟩ = some (.int .i64 (p1.tdiv n)) := by
        rw [hW2, World.cell?_setCell_other _ _ _ _ (fun e => by injection e with e1 e2; cases e2), World.cell?_setCell_same _ _ _ r2]
      have s1 : W2.cell? ⟨w.heap.size + 1, 1, none⟩ = some (.int .i64 (p2.tdiv n)) := by
        rw [hW2]
        exact World.cell?_setCell_same _ _ _ (show (W1.setCell ⟨w.heap.size + 1, 0, none⟩ (.int .i64 (p1.tdiv n))).cell? ⟨w.heap.size + 1, 1, none⟩ = some (.int .i64 0) by rw [World.cell?_setCell_other _ _ _ _ (fun e => by injection e with e1 e2; cases e2)]; exact r3)
      clear hW2
      go_wp2_with fail
      refine wp_region_Z 6 W1.heap.size W1 W2 (by kernel_rfl) (by repeat (first | exact Below.refl _ _ | apply Below.drew)) ?_
      first | refine wpZ_skip 0 rfl (by kernel_rfl) (by kernel_rfl) (by kernel_rfl) (by rfl) (by decide) ?_ | (refine wpZ_text 0 (v := ?_) rfl (by kernel_rfl) (by kernel_rfl) (by kernel_rfl) (by rfl) (by decide) (fun X hX W k1 => ?_) ?_; rotate_left; (obtain ⟨hX0, x0, x1, x2, x3⟩ := FX.out X hX; obtain ⟨hc1, hf1⟩ := bcellN k1; go_simp; refine comes_v ?_; exact k1))
      (try simp only [Act.put, List.setIfInBounds_toArray, List.set_cons_zero, List.set_cons_succ])
      first | refine wpZ_skip 1 rfl (by kernel_rfl) (by kernel_rfl) (by kernel_rfl) (by rfl) (by decide) ?_ | (refine wpZ_text 1 (v := ?_) rfl (by kernel_rfl) (by kernel_rfl) (by kernel_rfl) (by rfl) (by decide) (fun X hX W k1 => ?_) ?_; rotate_left; (obtain ⟨hX0, x0, x1, x2, x3⟩ := FX.out X hX; obtain ⟨hc1, hf1⟩ := bcellN k1; go_simp; refine comes_v ?_; exact k1))
      (try simp only [Act.put, List.setIfInBounds_toArray, List.set_cons_zero, List.set_cons_succ])
      first | refine wpZ_skip 2 rfl (by kernel_rfl) (by kernel_rfl) (by kernel_rfl) (by rfl) (by decide) ?_ | (refine wpZ_text 2 (v := ?_) rfl (by kernel_rfl) (by kernel_rfl) (by kernel_rfl) (by rfl) (by decide) (fun X hX W k1 => ?_) ?_; rotate_left; (obtain ⟨hX0, x0, x1, x2, x3⟩ := FX.out X hX; obtain ⟨hc1, hf1⟩ := bcellN k1; go_simp; refine comes_v ?_; exact k1))
      (try simp only [Act.put, List.setIfInBounds_toArray, List.set_cons_zero, List.set_cons_succ])
      first | refine wpZ_skip 3 rfl (by kernel_rfl) (by kernel_rfl) (by kernel_rfl) (by rfl) (by decide) ?_ | (refine wpZ_text 3 (v := .agg #[.int .i64 m1, .int .i64 m2]) rfl (by kernel_rfl) (by kernel_rfl) (by kernel_rfl) (by rfl) (by decide) (fun X hX W k1 => ?_) ?_; (obtain ⟨hX0, x0, x1, x2, x3⟩ := FX.out X hX; obtain ⟨hc1, hf1⟩ := bcellN k1; go_simp; exact comes_c ( K.out _) (fun wn hbn => k1.trans (hbn.mono (Nat.le_trans hX0 k1.size)))))
      (try simp only [Act.put, List.setIfInBounds_toArray, List.set_cons_zero, List.set_cons_succ])
      first | refine wpZ_skip 4 rfl (by kernel_rfl) (by kernel_rfl) (by kernel_rfl) (by rfl) (by decide) ?_ | (refine wpZ_text 4 (v := ?_) rfl (by kernel_rfl) (by kernel_rfl) (by kernel_rfl) (by rfl) (by decide) (fun X hX W k1 => ?_) ?_; rotate_left; (obtain ⟨hX0, x0, x1, x2, x3⟩ := FX.out X hX; obtain ⟨hc1, hf1⟩ := bcellN k1; go_simp; refine comes_v ?_; exact k1))
      (try simp only [Act.put, List.setIfInBounds_toArray, List.set_cons_zero, List.set_cons_succ])
      first | refine wpZ_skip 5 rfl (by kernel_rfl) (by kernel_rfl) (by kernel_rfl) (by rfl) (by decide) ?_ | (refine wpZ_text 5 (v := ?_) rfl (by kernel_rfl) (by kernel_rfl) (by kernel_rfl) (by rfl) (by decide) (fun X hX W k1 => ?_) ?_; rotate_left; (obtain ⟨hX0, x0, x1, x2, x3⟩ := FX.out X hX; obtain ⟨hc1, hf1⟩ := bcellN k1; go_simp; refine comes_v ?_; exact k1))
      (try simp only [Act.put, List.setIfInBounds_toArray, List.set_cons_zero, List.set_cons_succ])
      (refine wpZ_store (v := undef) rfl (by kernel_rfl) (by kernel_rfl) (by kernel_rfl) (by rfl) (fun W k1 => ?_) ?_; (obtain ⟨hc1, hf1⟩ := bcellN k1; go_simp; refine ⟨rfl, ?_⟩; rw [HW2.out]; exact below_set2 (below_set2 k1 _ _ zB) _ _ zB))
      (try simp only [Act.put, List.setIfInBounds_toArray, List.set_cons_zero, List.set_cons_succ])
      first | refine wpZ_skip 7 rfl (by kernel_rfl) (by kernel_rfl) (by kernel_rfl) (by rfl) (by decide) ?_ | (refine wpZ_text 7 (v := ?_) rfl (by kernel_rfl) (by kernel_rfl) (by kernel_rfl) (by rfl) (by decide) (fun X hX W k1 => ?_) ?_; rotate_left; (obtain ⟨hX0, x0, x1, x2, x3⟩ := FX.out X hX; obtain ⟨hc1, hf1⟩ := bcellN k1; go_simp; refine comes_v ?_; exact k1))
      (try simp only [Act.put, List.setIfInBounds_toArray, List.set_cons_zero, List.set_cons_succ])
      refine wpZ_done (by kernel_rfl) (by kernel_rfl) ?_ _
      intro W k1; obtain ⟨hc1, hf1⟩ := bcellN k1
      have B1 : Below w.heap.size w W := BW2.trans (k1.mono (by omega))
      go_wp2_with fail
      refine bodyPost_ret (v := .tuple #[.agg #[.int .i64 (p1.tdiv n), .int .i64 (p2.tdiv n)], .bool false]) (by simp [results, Try.results89, go_sem, hc1, zB, s0, s1]) rfl ⟨by simp [c1], ?_⟩
      repeat (first | with_reducible assumption | with_reducible exact Below.refl _ _ | with_reducible apply Below.drew | ((with_reducible refine Below.setCell ?_ ?_ _); rotate_left; (first | exact Nat.le_refl _ | omega | (simp <;> omega))) | ((with_reducible refine Below.alloc ?_ ?_ _); rotate_left; (first | omega | (simp <;> omega))))
end Go.Proofs.Ytjkfdcjfoliboaa
/- A statement that leaves the order of its first operations open, one of which makes a new block; the last ones stand in one order: one walk, in the order of the text, whatever the block's number. -/
namespace Go.Proofs.Ytjkfdcjfoliboaa
open Go.ChangeShapes Go.WideShapes Go.ChangeAt Go.RowKit Go.Joins
set_option linter.unusedVariables false
set_option linter.unusedSimpArgs false
set_option maxRecDepth 4000
section
variable {P : Program} {ops : Array Oper} {md : Region.Mode} {W0 : World}
theorem comes_mono {S S' : World → Prop} {v : Value} {r : Result Next} (h : Comes P S v r) (hk : ∀ w, S w → S' w) : Comes P S' v r := by
  cases r with
  | ok n w' =>
    cases n with
    | value u => exact ⟨h.1, hk _ h.2⟩
    | skip => exact ⟨h.1, hk _ h.2⟩
    | enter f args => exact Calls.mono h fun e w'' he => ⟨he.1, hk _ he.2⟩
    | _ => exact h.elim
  | halt x w' => exact h.elim
def SteadyR (P : Program) (ops : Array Oper) (W0 : World) (o : Oper) (v : Value) (a : Act) : Prop :=
  (Region.wanted o (yielded ops a.tmps) = true ∧ ∀ w, Below W0.heap.size W0 w → Comes P (fun w' => Below w.heap.size w w') v ((execOp a.eval o).run P w)) ∨
  (Region.wanted o (yielded ops a.tmps) = false ∧ v = undef)
theorem steady_of_R {S : World → Prop} {o : Oper} {v : Value} {a : Act} (h : SteadyR P ops W0 o v a) (hS : ∀ w, S w → Below W0.heap.size W0 w) (hK : ∀ w w', S w → Below w.heap.size w w' → S w') : Steady P ops S o v a := by
  rcases h with ⟨h1, h2⟩ | h
  · exact Or.inl ⟨h1, fun w hw => comes_mono (h2 w (hS w hw)) fun w' hb => hK w w' hw hb⟩
  · exact Or.inr h
theorem steadyR_same {o : Oper} {v : Value} {a a' : Act} (hy : SteadyR P ops W0 o v a) (he : execOp a'.eval o = execOp a.eval o)
    (hw : Region.wanted o (yielded ops a'.tmps) = Region.wanted o (yielded ops a.tmps)) : SteadyR P ops W0 o v a' := by
  unfold SteadyR at *; rw [he, hw]; exact hy
def wpAnyR (P : Program) (md : Region.Mode) (ops : Array Oper) (W0 : World) (n : Nat) (L : Array Bool → Act → Prop) : Nat → Array Bool → Act → Prop
  | 0, listed, a => L listed a
  | f + 1, listed, a => Region.ready md ops listed ≠ [] ∧ ∀ i ∈ Region.ready md ops listed, i < n ∧ ∃ oi v, ops[i]? = some oi ∧ SteadyR P ops W0 oi v a ∧ wpAnyR P md ops W0 n L f (listed.setIfInBounds i true) (a.put oi.dst v)
theorem wpAnyS_of_R {n : Nat} {L : Array Bool → Act → Prop} {S : World → Prop} (hS : ∀ w, S w → Below W0.heap.size W0 w) (hK : ∀ w w', S w → Below w.heap.size w w' → S w') :
    ∀ (f : Nat) (listed : Array Bool) (a : Act), wpAnyR P md ops W0 n L f listed a → wpAnyS P md ops S n L f listed a
  | 0, _, _, h => h
  | f + 1, listed, a, h => ⟨h.1, fun i hi => by
      obtain ⟨h1, oi, v, ho, hy, hn⟩ := h.2 i hi
      exact ⟨h1, oi, v, ho, steady_of_R hy hS hK, wpAnyS_of_R hS hK f _ _ hn⟩⟩
theorem wpAnyR_first {n i : Nat} {oi : Oper} {v : Value} {L : Array Bool → Act → Prop} (hi : ops[i]? = some oi) (hsel : ∀ (j : Nat) (o : Oper) cs b, ops[j]? = some o → o.op ≠ .select cs b)
    (hs : Region.sinkB md ops n = true) (hc : Region.chainB md ops n = true) (hn : n < ops.size) (hin : i < n)
    (hdone : ∀ listed a, L listed a → ∀ j ∈ Region.ready md ops listed, n ≤ j) :
    ∀ (f : Nat) (listed : Array Bool) (a : Act), HeadInv md ops n listed →
      (∀ j oj, ops[j]? = some oj → j ≠ i → listed.getD j true = false → (∀ e ∈ oj.after, Region.binds md e = true → e.on ≠ i) → oi.apart ops oj = true) →
      i ∈ Region.ready md ops listed → SteadyR P ops W0 oi v a →
      wpAnyR P md ops W0 n L f (listed.setIfInBounds i true) (a.put oi.dst v) → wpAnyR P md ops W0 n L (f + 1) listed a := by
  intro f
  induction f with
  | zero =>
    intro listed a inv _ hr hy H
    have hun := (mem_ready.1 hr).1
    refine ⟨fun h => (by rw [h] at hr; cases hr), fun j hj => ?_⟩
    have hjn : j < n := by
      rcases Nat.lt_or_ge j n with h | h
      · exact h
      · exact absurd hj (tail_waits hs hc hn inv _ i rfl hin hun j h)
    refine ⟨hjn, ?_⟩
    by_cases hji : j = i
    · subst hji; exact ⟨oi, v, hi, hy, H⟩
    · have := hdone _ _ H j (ready_mono hj hji)
      omega
  | succ f ih =>
    intro listed a inv hfree hr hy H
    have hun := (mem_ready.1 hr).1
    refine ⟨fun h => (by rw [h] at hr; cases hr), fun j hj => ?_⟩
    have hjn : j < n := by
      rcases Nat.lt_or_ge j n with h | h
      · exact h
      · exact absurd hj (tail_waits hs hc hn inv _ i rfl hin hun j h)
    refine ⟨hjn, ?_⟩
    by_cases hji : j = i
    · subst hji; exact ⟨oi, v, hi, hy, H⟩
    · obtain ⟨_, oj, u, hoj, hsj, Hj⟩ := H.2 j (ready_mono hj hji)
      obtain ⟨hjun, oj', hoj', hall⟩ := mem_ready.1 hj
      obtain rfl : oj' = oj := Option.some.inj (hoj'.symm.trans hoj)
      have hnot : ∀ e ∈ oj'.after, Region.binds md e = true → e.on ≠ i := fun e he hb heq => by
        have h1 := hall e he hb
        rw [heq, getD_both hun] at h1
        cases h1
      obtain ⟨h1, h2, h3⟩ := Oper.apart_spec (hfree j oj' hoj hji hjun hnot)
      have k1 : SteadyR P ops W0 oj' u a := steadyR_same hsj (execOp_put oj' (fun cs b => hsel j oj' cs b hoj) a oi.dst v h1).symm (wanted_put oj' a oi.dst v h1).symm
      have k2 : SteadyR P ops W0 oi v (a.put oj'.dst u) := steadyR_same hy (execOp_put oi (fun cs b => hsel i oi cs b hi) a oj'.dst u h3) (wanted_put oi a oj'.dst u h3)
      refine ⟨oj', u, hoj, k1, ih _ _ (inv.set hj hjn) (fun k ok hk hki hun hno => ?_) (ready_mono hr (Ne.symm hji)) k2 ?_⟩
      · refine hfree k ok hk hki ?_ hno
        by_cases hjk : j = k
        · subst hjk; exact hjun
        · rw [getD_set_ne true hjk] at hun; exact hun
      · rw [Array.setIfInBounds_comm _ _ hji, ← Act.put_comm a v u h2]
        exact Hj
/-- the head, in the text's order -/
def wpHR (P : Program) (ops : Array Oper) (W0 : World) (T : Act → Prop) : List Oper → Act → Prop
  | [], a => T a
  | o :: rest, a => ∃ v, SteadyR P ops W0 o v a ∧ wpHR P ops W0 T rest (a.put o.dst v)
def lexZ (md : Region.Mode) (ops : Array Oper) (g n : Nat) : Nat → Nat → Array Bool → Bool
  | 0, _, listed => Region.seqB md ops g n listed
  | m + 1, k, listed => (Region.ready md ops listed).contains k && Region.free md ops listed k && lexZ md ops g n m (k + 1) (listed.setIfInBounds k true)
theorem wpAnyR_lex {n g : Nat} {T : Act → Prop} (hsel : Region.noSelect ops = true) (hs : Region.sinkB md ops n = true) (hc : Region.chainB md ops n = true) (hn : n < ops.size) :
    ∀ (l : List Oper) (k : Nat) (listed : Array Bool) (a : Act), (∀ j, j < l.length → l[j]? = ops[k + j]?) → k + l.length < n → HeadInv md ops n listed →
    lexZ md ops g n l.length k listed = true → wpHR P ops W0 T l a →
    wpAnyR P md ops W0 n (fun listed' a' => Region.seqB md ops g n listed' = true ∧ T a') l.length listed a
  | [], k, listed, a, _, _, _, hB, h => ⟨hB, h⟩
  | o :: l, k, listed, a, hl, hk, inv, hB, h => by
    have h0 : ops[k]? = some o := by simpa using (hl 0 (by simp)).symm
    simp only [List.length_cons, lexZ, Bool.and_eq_true] at hB
    obtain ⟨⟨hr, hf⟩, hB'⟩ := hB
    have hkn : k < n := by simp only [List.length_cons] at hk; omega
    have hr' : k ∈ Region.ready md ops listed := by simpa using hr
    obtain ⟨v, hy, hK⟩ := h
    exact wpAnyR_first h0 (Region.noSelect_spec hsel) hs hc hn hkn (fun listed' a' hL => seqB_ready hL.1) l.length listed a inv (Region.free_spec h0 hf) hr' hy
      (wpAnyR_lex hsel hs hc hn l (k + 1) _ _ (fun j hj => by have := hl (j + 1) (by simp; omega); simpa [Nat.add_assoc, Nat.add_comm 1 j] using this) (by simp only [List.length_cons] at hk; omega) (inv.set hr' hkn) hB' hK)
theorem getD_set_keep {listed : Array Bool} {j z : Nat} (h : listed.getD z true = true) : (listed.setIfInBounds j true).getD z true = true := by
  by_cases hj : j = z
  · subst hj
    rcases Nat.lt_or_ge j listed.size with h' | h'
    · simp [h']
    · simp [Array.getElem?_eq_none h']
  · rw [getD_set_ne true hj]; exact h
/-- what the head comes to, with another slot set -/
theorem wpAnyR_put {n z : Nat} {oz : Oper} {vz : Value} {L : Array Bool → Act → Prop} (hsel : ∀ (j : Nat) (o : Oper) cs b, ops[j]? = some o → o.op ≠ .select cs b)
    (hap : ∀ j oj, j < n → j ≠ z → ops[j]? = some oj → oz.apart ops oj = true) :
    ∀ (f : Nat) (listed : Array Bool) (a : Act), listed.getD z true = true → wpAnyR P md ops W0 n L f listed a →
      wpAnyR P md ops W0 n (fun l' a' => ∃ b, L l' b ∧ a' = b.put oz.dst vz) f listed (a.put oz.dst vz)
  | 0, listed, a, _, h => ⟨a, h, rfl⟩
  | f + 1, listed, a, hz, h => ⟨h.1, fun j hj => by
      obtain ⟨hjn, oj, u, hoj, hsj, Hj⟩ := h.2 j hj
      have hjz : j ≠ z := by
        intro e
        subst e
        have := (mem_ready.1 hj).1
        rw [hz] at this
        cases this
      obtain ⟨h1, h2, h3⟩ := Oper.apart_spec (hap j oj hjn hjz hoj)
      refine ⟨hjn, oj, u, hoj, steadyR_same hsj (execOp_put oj (fun cs b => hsel j oj cs b hoj) a oz.dst vz h1) (wanted_put oj a oz.dst vz h1), ?_⟩
      rw [Act.put_comm a vz u h2]
      exact wpAnyR_put hsel hap f _ _ (getD_set_keep hz) Hj⟩
theorem op_gives {o : Oper} {a : Act} {K : Act → World → Prop} {Q : Exit → Act → World → Prop} {W w' : World} {v : Value} {i : Nat} (hi : ops[i]? = some o) (hw : Region.wanted o (yielded ops a.tmps) = true)
    (h1 : (execOp a.eval o).run P W = .ok (.value v) w') (h2 : K (a.put o.dst v) w') : wpOp P ops Q i K a W := by
  unfold wpOp
  simp only [hi, hw, if_true]
  left
  unfold Oper.wp
  rw [h1]
  exact h2
theorem wpAny_alloc {n z g : Nat} {oz : Oper} {obj : Obj} {rest : List Oper} {T : Act → Prop} {Q : Exit → Act → World → Prop} (hsel : ∀ (j : Nat) (o : Oper) cs b, ops[j]? = some o → o.op ≠ .select cs b)
    (hs : Region.sinkB md ops n = true) (hc : Region.chainB md ops n = true) (hn : n < ops.size) (hz : z < n) (hoz : ops[z]? = some oz)
    (hap : ∀ j oj, j < n → j ≠ z → ops[j]? = some oj → oz.apart ops oj = true) (hw : ∀ a : Act, Region.wanted oz (yielded ops a.tmps) = true)
    (hal : ∀ (a : Act) W, (execOp a.eval oz).run P W = .ok (.value (.pointer (some ⟨W.heap.size, 0, none⟩))) (W.alloc obj))
    (hrest : ∀ j, rest[j]? = ops[n + j]?) (hg : rest.length = g)
    (hT : ∀ a', T a' → ∀ W1 W, Below W0.heap.size W0 W1 → Below (W1.alloc obj).heap.size (W1.alloc obj) W → wpList P ops Q rest (a'.put oz.dst (.pointer (some ⟨W1.heap.size, 0, none⟩))) W) :
    ∀ (f : Nat) (listed : Array Bool) (a : Act), HeadInv md ops n listed → z ∈ Region.ready md ops listed →
      wpAnyR P md ops W0 n (fun l' a' => Region.seqB md ops g n l' = true ∧ T a') f (listed.setIfInBounds z true) a →
      ∀ W, Below W0.heap.size W0 W → wpAny P md ops Q (f + 1 + g) listed a W := by
  have doz : ∀ (f : Nat) (listed : Array Bool) (a : Act), z ∈ Region.ready md ops listed →
      wpAnyR P md ops W0 n (fun l' a' => Region.seqB md ops g n l' = true ∧ T a') f (listed.setIfInBounds z true) a →
      ∀ W, Below W0.heap.size W0 W → wpOp P ops Q z (fun a' w' => wpAny P md ops Q (f + g) (listed.setIfInBounds z true) a' w') a W := by
    intro f listed a hr H W hW
    refine op_gives hoz (hw _) (hal _ _) ?_
    have hzl : (listed.setIfInBounds z true).getD z true = true := by
      rcases Nat.lt_or_ge z listed.size with h' | h'
      · simp [h']
      · simp [Array.getElem?_eq_none h']
    have hWA : Below W0.heap.size W0 (W.alloc obj) := Below.alloc hW hW.size obj
    have H2 := wpAnyR_put (vz := .pointer (some ⟨W.heap.size, 0, none⟩)) hsel hap f _ _ hzl H
    have H3 := wpAnyS_of_R (S := fun w => Below (W.alloc obj).heap.size (W.alloc obj) w) (fun w hb => hWA.trans (hb.mono hWA.size)) (fun w w' h1 h2 => h1.trans (h2.mono h1.size)) f _ _ H2
    refine wpAny_of_S (Q := Q) (g := g) (fun l' a' hL W' hW' => ?_) f _ _ H3 (W.alloc obj) (Below.refl _ _)
    obtain ⟨b, ⟨hB, hTb⟩, rfl⟩ := hL
    have := wpAny_of_seq (md := md) (Q' := Q) rest n l' _ W' hrest (by rw [hg]; exact hB) (hT b hTb W W' hW hW')
    rwa [hg] at this
  intro f
  induction f with
  | zero =>
    intro listed a inv hr H W hW
    rw [show 0 + 1 + g = (0 + g) + 1 by omega]
    refine ⟨fun h => (by rw [h] at hr; cases hr), fun j hj => ?_⟩
    by_cases hjz : j = z
    · subst hjz; exact doz 0 listed a hr H W hW
    · have h1 := seqB_ready H.1 j (ready_mono hj hjz)
      exact absurd hj (tail_waits hs hc hn inv _ z rfl hz (mem_ready.1 hr).1 j h1)
  | succ f ih =>
    intro listed a inv hr H W hW
    rw [show f + 1 + 1 + g = (f + 1 + g) + 1 by omega]
    refine ⟨fun h => (by rw [h] at hr; cases hr), fun j hj => ?_⟩
    by_cases hjz : j = z
    · subst hjz; exact doz (f + 1) listed a hr H W hW
    · obtain ⟨hjn, oj, u, hoj, hsj, Hj⟩ := H.2 j (ready_mono hj hjz)
      have hst : Steady P ops (fun w => Below W0.heap.size W0 w) oj u a := steady_of_R hsj (fun w h => h) (fun w w' h1 h2 => h1.trans (h2.mono h1.size))
      refine steady_op hoj hst hW fun w' hS' => ?_
      refine ih (listed.setIfInBounds j true) (a.put oj.dst u) (inv.set hj hjn) (ready_mono hr (Ne.symm hjz)) ?_ w' hS'
      rw [Array.setIfInBounds_comm _ _ hjz]
      exact Hj
def lexAllB (md : Region.Mode) (ops : Array Oper) (z : Nat) : Bool :=
  Region.noSelect ops && decide (z + 1 < ops.size) && Region.sinkB md ops (z + 1) && Region.chainB md ops (z + 1) && (Region.ready md ops (Array.replicate ops.size false)).contains z &&
    ((List.range z).all fun j => match ops[z]?, ops[j]? with | some oz, some oj => oz.apart ops oj | _, _ => false) &&
    lexZ md ops (ops.size - (z + 1)) (z + 1) z 0 ((Array.replicate ops.size false).setIfInBounds z true)
theorem wp_region_AL {id : Nat} {Q : Exit → Act → World → Prop} {a : Act} {w : World} {l : List Oper} (z : Nat) {oz : Oper} {rest : List Oper} {obj : Obj} (W0 : World) (hm : P.follows .mixedOrders = true) (hB : lexAllB .any l.toArray z = true)
    (hS : Below W0.heap.size W0 w.drew) (hlz : l.drop z = oz :: rest) (hw : ∀ a, Region.wanted oz (yielded l.toArray a) = true)
    (hal : ∀ (a : Act) W, (execOp a.eval oz).run P W = .ok (.value (.pointer (some ⟨W.heap.size, 0, none⟩))) (W.alloc obj))
    (h : wpHR P l.toArray W0 (fun a' => ∀ W1 W, Below W0.heap.size W0 W1 → Below (W1.alloc obj).heap.size (W1.alloc obj) W → wpList P l.toArray Q rest (a'.put oz.dst (.pointer (some ⟨W1.heap.size, 0, none⟩))) W) (l.take z) a) :
    (Code.region id l.toArray true).wp P Q a w := by
  simp only [lexAllB, Bool.and_eq_true, decide_eq_true_eq] at hB
  obtain ⟨⟨⟨⟨⟨⟨hsel, hn⟩, hs⟩, hc⟩, hr0⟩, hap⟩, hlex⟩ := hB
  have hn' : z + 1 < l.length := by simpa using hn
  have hoz : l.toArray[z]? = some oz := by
    have h0 : (l.drop z)[0]? = some oz := by rw [hlz]; rfl
    simpa [List.getElem?_drop] using h0
  have hrest : ∀ j, rest[j]? = l.toArray[z + 1 + j]? := fun j => by
    have h0 : (l.drop z)[j + 1]? = rest[j]? := by rw [hlz]; rfl
    rw [← h0]
    simp [List.getElem?_drop]
    congr 1
    omega
  have hrl : rest.length = l.toArray.size - (z + 1) := by
    have := congrArg List.length hlz
    simp at this ⊢
    omega
  have htl : (l.take z).length = z := by simp; omega
  have inv0 : HeadInv .any l.toArray (z + 1) (Array.replicate l.toArray.size false) :=
    ⟨by simp, fun j oj _ hl => (by rw [getD_replicate_false] at hl; cases hl), fun t _ ht => getD_in (by simpa using ht) (getD_replicate_false _ _)⟩
  have hr0' : z ∈ Region.ready .any l.toArray (Array.replicate l.toArray.size false) := by simpa using hr0
  have H := wpAnyR_lex (md := .any) (g := l.toArray.size - (z + 1)) hsel hs hc hn (l.take z) 0 _ a (fun j hj => by
    have hj' : j < z := by rw [htl] at hj; exact hj
    simp [List.getElem?_take, hj']) (by rw [htl]; omega) (inv0.set hr0' (by omega)) (by rw [htl]; exact hlex) h
  refine wp_region_any hm ?_
  have hap' : ∀ j oj, j < z + 1 → j ≠ z → l.toArray[j]? = some oj → oz.apart l.toArray oj = true := fun j oj hj hjz hoj => by
    have h1 := List.all_eq_true.1 hap j (List.mem_range.2 (by omega))
    simpa only [hoz, hoj] using h1
  have := wpAny_alloc (md := .any) (Q := Q) (g := l.toArray.size - (z + 1)) (rest := rest) (Region.noSelect_spec hsel) hs hc hn (by omega) hoz hap' (fun a => hw a.tmps) hal hrest hrl (fun a' hT => hT) (l.take z).length _ a inv0 hr0' H w.drew hS
  rw [htl, show z + 1 + (l.toArray.size - (z + 1)) = l.toArray.size by omega] at this
  exact this
theorem wpR_text {T : Act → Prop} {o : Oper} {rest : List Oper} {a : Act} {v : Value} (hw : Region.wanted o (yielded ops a.tmps) = true) (hy : ∀ w, Below W0.heap.size W0 w → Comes P (fun w' => Below w.heap.size w w') v ((execOp a.eval o).run P w))
    (h : wpHR P ops W0 T rest (a.put o.dst v)) : wpHR P ops W0 T (o :: rest) a := ⟨v, Or.inl ⟨hw, hy⟩, h⟩
theorem wpR_skip {T : Act → Prop} {o : Oper} {rest : List Oper} {a : Act} (hw : Region.wanted o (yielded ops a.tmps) = false)
    (h : wpHR P ops W0 T rest (a.put o.dst undef)) : wpHR P ops W0 T (o :: rest) a := ⟨undef, Or.inr ⟨hw, rfl⟩, h⟩
theorem wpR_nil {T : Act → Prop} {a : Act} (h : T a) : wpHR P ops W0 T [] a := h
end
end Go.Proofs.Ytjkfdcjfoliboaa
/- A statement that leaves the order of its first operations open, one of which makes a new block, and one of which, which looks at no memory, may also come behind the store into it: one walk, in the order of the text. -/
namespace Go.Proofs.Ytjkfdcjfoliboaa
open Go.ChangeShapes Go.WideShapes Go.ChangeAt Go.RowKit Go.Joins
set_option linter.unusedVariables false
set_option linter.unusedSimpArgs false
set_option maxRecDepth 4000
section
variable {P : Program} {ops : Array Oper} {W0 : World}
theorem binds_any_text {e : Edge} (h : Region.binds .any e = true) : Region.binds .text e = true := by
  unfold Region.binds at *
  split at h <;> simp_all
theorem ready_text_any {j : Nat} {listed : Array Bool} (h : j ∈ Region.ready .text ops listed) : j ∈ Region.ready .any ops listed := by
  rw [mem_ready] at *
  obtain ⟨h0, o, ho, hall⟩ := h
  exact ⟨h0, o, ho, fun e he hb => hall e he (binds_any_text hb)⟩
/-- the edges that the text alone draws: only from operation n to operation m -/
structure Late (ops : Array Oper) (n m : Nat) (om on : Oper) : Prop where
  hm : ops[m]? = some om
  hn : ops[n]? = some on
  mn : m < n
  other : ∀ j o, ops[j]? = some o → j ≠ n → ∀ e ∈ o.after, Region.binds .text e = true → Region.binds .any e = true
  self : ∀ e ∈ on.after, Region.binds .text e = true → Region.binds .any e = true ∨ e.on = m
  deps : ∀ e ∈ om.after, Region.binds .text e = true → ∃ e' ∈ on.after, Region.binds .any e' = true ∧ e'.on = e.on
  free : ∀ j o, ops[j]? = some o → n ≤ j → (∀ e ∈ o.after, Region.binds .any e = true → e.on ≠ m) → om.apart ops o = true
theorem late_other {n m : Nat} {om on : Oper} (h : Late ops n m om on) {j : Nat} {listed : Array Bool} (hj : j ∈ Region.ready .any ops listed) (hne : j ≠ n) : j ∈ Region.ready .text ops listed := by
  rw [mem_ready] at *
  obtain ⟨h0, o, ho, hall⟩ := hj
  exact ⟨h0, o, ho, fun e he hb => hall e he (h.other j o ho hne e he hb)⟩
theorem late_m {n m : Nat} {om on : Oper} (h : Late ops n m om on) {listed : Array Bool} (hsz : listed.size = ops.size) (hj : n ∈ Region.ready .any ops listed) (hne : n ∉ Region.ready .text ops listed) :
    m ∈ Region.ready .text ops listed ∧ n ∈ Region.ready .text ops (listed.setIfInBounds m true) := by
  have hj0 := hj
  rw [mem_ready] at hj
  obtain ⟨h0, o, ho, hall⟩ := hj
  obtain rfl : o = on := Option.some.inj (ho.symm.trans h.hn)
  have hms : m < listed.size := by rw [hsz]; exact (Array.getElem?_eq_some_iff.1 h.hm).1
  have hun : listed.getD m false = false := by
    cases hl : listed.getD m false with
    | false => rfl
    | true =>
      refine absurd (mem_ready.2 ⟨h0, o, ho, fun e he hb => ?_⟩) hne
      rcases h.self e he hb with h1 | h1
      · exact hall e he h1
      · rw [h1]; exact hl
  refine ⟨mem_ready.2 ⟨getD_in hms hun, om, h.hm, fun e he hb => ?_⟩, mem_ready.2 ⟨?_, o, ho, fun e he hb => ?_⟩⟩
  · obtain ⟨e', h1, h2, h3⟩ := h.deps e he hb
    rw [← h3]; exact hall e' h1 h2
  · rw [getD_set_ne true (Nat.ne_of_lt h.mn)]; exact h0
  · rcases h.self e he hb with h1 | h1
    · exact getD_set_true (hall e he h1)
    · rw [h1]; simp [hms]
theorem wpAny_late {n m g : Nat} {om on : Oper} {S : World → Prop} {L : Array Bool → Act → Prop} {Q : Exit → Act → World → Prop} (hL : Late ops n m om on) (hsel : ∀ (j : Nat) (o : Oper) cs b, ops[j]? = some o → o.op ≠ .select cs b)
    (hs : Region.sinkB .text ops n = true) (hc : Region.chainB .text ops n = true) (hn : n < ops.size)
    (hpure : ∀ (a : Act) v w w', S w → Comes P S v ((execOp a.eval om).run P w) → (execOp a.eval om).run P w' = .ok (.value v) w')
    (hQ : ∀ c (a : Act) v w, Q (.panic c) (a.put om.dst v) w → Q (.panic c) a w)
    (hT : ∀ listed a, L listed a → ∀ w, S w → wpAny P .any ops Q g listed a w) :
    ∀ (f : Nat) (listed : Array Bool) (a : Act), HeadInv .text ops n listed → wpAnyS P .text ops S n L f listed a → ∀ w, S w → wpAny P .any ops Q (f + g) listed a w
  | 0, listed, a, _, h, w, hS => by rw [Nat.zero_add]; exact hT _ _ h w hS
  | f + 1, listed, a, inv, h, w, hS => by
    by_cases hnr : n ∈ Region.ready .any ops listed ∧ n ∉ Region.ready .text ops listed
    · obtain ⟨hm, hn2⟩ := late_m hL inv.size hnr.1 hnr.2
      obtain ⟨_, om', v, hom, hst, H⟩ := h.2 m hm
      obtain rfl : om' = om := Option.some.inj (hom.symm.trans hL.hm)
      have inv2 := inv.set hm hL.mn
      cases f with
      | succ f => exact absurd (H.2 n hn2).1 (Nat.lt_irrefl n)
      | zero =>
        have hy : Yields P ops om' v a := by
          rcases hst with ⟨h1, h2⟩ | h2
          · exact Or.inl ⟨h1, fun w' => hpure a v w w' hS (h2 w hS)⟩
          · exact Or.inr h2
        have := wpAny_first (Q := Q) (md := .any) hom hsel (fun c a w => hQ c a v w) g listed a w (fun j oj hj hjm hun hno => by
          rcases Nat.lt_or_ge j n with hjn | hjn
          · exact absurd hn2 (tail_waits hs hc hn inv2 _ j rfl hjn (by rw [getD_set_ne true (Ne.symm hjm)]; exact hun) n (Nat.le_refl _))
          · exact hL.free j oj hj hjn hno) (ready_text_any hm) hy (hT _ _ H w hS)
        rw [show 0 + 1 + g = g + 1 by omega]
        exact this
    · have key : ∀ j, j ∈ Region.ready .any ops listed → j ∈ Region.ready .text ops listed := fun j hj => by
        by_cases hjn : j = n
        · subst hjn
          apply Classical.byContradiction
          intro h1
          exact hnr ⟨hj, h1⟩
        · exact late_other hL hj hjn
      rw [show f + 1 + g = (f + g) + 1 by omega]
      refine ⟨fun h0 => ?_, fun j hj => ?_⟩
      · exfalso
        apply h.1
        apply List.eq_nil_iff_forall_not_mem.2
        intro j hj
        have := ready_text_any hj
        rw [h0] at this
        cases this
      · obtain ⟨hjn, oj, v, ho, hy, hk⟩ := h.2 j (key j hj)
        exact steady_op ho hy hS fun w' hS' => wpAny_late hL hsel hs hc hn hpure hQ hT f _ _ (inv.set (key j hj) hjn) hk w' hS'
theorem wpAny_alloc2 {n z m g : Nat} {oz om on : Oper} {obj : Obj} {rest : List Oper} {T : Act → Prop} {Q : Exit → Act → World → Prop} (hL : Late ops n m om on) (hsel : ∀ (j : Nat) (o : Oper) cs b, ops[j]? = some o → o.op ≠ .select cs b)
    (hs : Region.sinkB .text ops n = true) (hc : Region.chainB .text ops n = true) (hn : n < ops.size) (hz : z < n) (hnz : Region.waitsFor .any ops n z = true) (hoz : ops[z]? = some oz)
    (hap : ∀ j oj, j < n → j ≠ z → ops[j]? = some oj → oz.apart ops oj = true) (hw : ∀ a : Act, Region.wanted oz (yielded ops a.tmps) = true)
    (hal : ∀ (a : Act) W, (execOp a.eval oz).run P W = .ok (.value (.pointer (some ⟨W.heap.size, 0, none⟩))) (W.alloc obj))
    (hpure : ∀ (S : World → Prop) (a : Act) v w w', Comes P S v ((execOp a.eval om).run P w) → (execOp a.eval om).run P w' = .ok (.value v) w')
    (hQ : ∀ c (a : Act) v w, Q (.panic c) (a.put om.dst v) w → Q (.panic c) a w)
    (hrest : ∀ j, rest[j]? = ops[n + j]?) (hg : rest.length = g)
    (hT : ∀ a', T a' → ∀ W1 W, Below W0.heap.size W0 W1 → Below (W1.alloc obj).heap.size (W1.alloc obj) W → wpList P ops Q rest (a'.put oz.dst (.pointer (some ⟨W1.heap.size, 0, none⟩))) W) :
    ∀ (f : Nat) (listed : Array Bool) (a : Act), HeadInv .text ops n listed → z ∈ Region.ready .text ops listed →
      wpAnyR P .text ops W0 n (fun l' a' => (Region.seqB .text ops g n l' = true ∧ Region.seqB .any ops g n l' = true) ∧ T a') f (listed.setIfInBounds z true) a →
      ∀ W, Below W0.heap.size W0 W → wpAny P .any ops Q (f + 1 + g) listed a W := by
  have doz : ∀ (f : Nat) (listed : Array Bool) (a : Act), HeadInv .text ops n listed → z ∈ Region.ready .text ops listed →
      wpAnyR P .text ops W0 n (fun l' a' => (Region.seqB .text ops g n l' = true ∧ Region.seqB .any ops g n l' = true) ∧ T a') f (listed.setIfInBounds z true) a →
      ∀ W, Below W0.heap.size W0 W → wpOp P ops Q z (fun a' w' => wpAny P .any ops Q (f + g) (listed.setIfInBounds z true) a' w') a W := by
    intro f listed a inv hr H W hW
    refine op_gives hoz (hw _) (hal _ _) ?_
    have hzl : (listed.setIfInBounds z true).getD z true = true := by
      rcases Nat.lt_or_ge z listed.size with h' | h'
      · simp [h']
      · simp [Array.getElem?_eq_none h']
    have hWA : Below W0.heap.size W0 (W.alloc obj) := Below.alloc hW hW.size obj
    have H2 := wpAnyR_put (vz := .pointer (some ⟨W.heap.size, 0, none⟩)) hsel hap f _ _ hzl H
    have H3 := wpAnyS_of_R (S := fun w => Below (W.alloc obj).heap.size (W.alloc obj) w) (fun w hb => hWA.trans (hb.mono hWA.size)) (fun w w' h1 h2 => h1.trans (h2.mono h1.size)) f _ _ H2
    refine wpAny_late (Q := Q) (g := g) hL hsel hs hc hn (fun a v w w' _ h => hpure _ a v w w' h) hQ (fun l' a' hLL W' hW' => ?_) f _ _ (inv.set hr hz) H3 (W.alloc obj) (Below.refl _ _)
    obtain ⟨b, ⟨hB, hTb⟩, rfl⟩ := hLL
    have := wpAny_of_seq (md := .any) (Q' := Q) rest n l' _ W' hrest (by rw [hg]; exact hB.2) (hT b hTb W W' hW hW')
    rwa [hg] at this
  have nope : ∀ (listed : Array Bool), z ∈ Region.ready .text ops listed → n ∉ Region.ready .any ops listed := fun listed hr hj => by
    obtain ⟨o', ho', e, he, hb, hon⟩ := Region.waitsFor_spec hnz
    obtain ⟨_, o, ho, hall⟩ := mem_ready.1 hj
    obtain rfl : o' = o := Option.some.inj (ho'.symm.trans ho)
    have := hall e he hb
    rw [hon, getD_both (mem_ready.1 hr).1] at this
    cases this
  intro f
  induction f with
  | zero =>
    intro listed a inv hr H W hW
    rw [show 0 + 1 + g = (0 + g) + 1 by omega]
    refine ⟨fun h => (by have := ready_text_any hr; rw [h] at this; cases this), fun j hj => ?_⟩
    by_cases hjz : j = z
    · subst hjz; exact doz 0 listed a inv hr H W hW
    · have hjt := late_other hL hj (fun e => nope listed hr (e ▸ hj))
      have h1 := seqB_ready H.1.1 j (ready_mono hjt hjz)
      exact absurd hjt (tail_waits hs hc hn inv _ z rfl hz (mem_ready.1 hr).1 j h1)
  | succ f ih =>
    intro listed a inv hr H W hW
    rw [show f + 1 + 1 + g = (f + 1 + g) + 1 by omega]
    refine ⟨fun h => (by have := ready_text_any hr; rw [h] at this; cases this), fun j hj => ?_⟩
    by_cases hjz : j = z
    · subst hjz; exact doz (f + 1) listed a inv hr H W hW
    · have hjt := late_other hL hj (fun e => nope listed hr (e ▸ hj))
      obtain ⟨hjn, oj, u, hoj, hsj, Hj⟩ := H.2 j (ready_mono hjt hjz)
      have hst : Steady P ops (fun w => Below W0.heap.size W0 w) oj u a := steady_of_R hsj (fun w h => h) (fun w w' h1 h2 => h1.trans (h2.mono h1.size))
      refine steady_op hoj hst hW fun w' hS' => ?_
      refine ih (listed.setIfInBounds j true) (a.put oj.dst u) (inv.set hjt hjn) (ready_mono hr (Ne.symm hjz)) ?_ w' hS'
      rw [Array.setIfInBounds_comm _ _ hjz]
      exact Hj
def lexT (ops : Array Oper) (g n : Nat) : Nat → Nat → Array Bool → Bool
  | 0, _, listed => Region.seqB .text ops g n listed && Region.seqB .any ops g n listed
  | m + 1, k, listed => (Region.ready .text ops listed).contains k && Region.free .text ops listed k && lexT ops g n m (k + 1) (listed.setIfInBounds k true)
theorem wpAnyR_lexT {n g : Nat} {T : Act → Prop} (hsel : Region.noSelect ops = true) (hs : Region.sinkB .text ops n = true) (hc : Region.chainB .text ops n = true) (hn : n < ops.size) :
    ∀ (l : List Oper) (k : Nat) (listed : Array Bool) (a : Act), (∀ j, j < l.length → l[j]? = ops[k + j]?) → k + l.length < n → HeadInv .text ops n listed →
    lexT ops g n l.length k listed = true → wpHR P ops W0 T l a →
    wpAnyR P .text ops W0 n (fun listed' a' => (Region.seqB .text ops g n listed' = true ∧ Region.seqB .any ops g n listed' = true) ∧ T a') l.length listed a
  | [], k, listed, a, _, _, _, hB, h => by simp only [List.length_nil, lexT, Bool.and_eq_true] at hB; exact ⟨hB, h⟩
  | o :: l, k, listed, a, hl, hk, inv, hB, h => by
    have h0 : ops[k]? = some o := by simpa using (hl 0 (by simp)).symm
    simp only [List.length_cons, lexT, Bool.and_eq_true] at hB
    obtain ⟨⟨hr, hf⟩, hB'⟩ := hB
    have hkn : k < n := by simp only [List.length_cons] at hk; omega
    have hr' : k ∈ Region.ready .text ops listed := by simpa using hr
    obtain ⟨v, hy, hK⟩ := h
    exact wpAnyR_first h0 (Region.noSelect_spec hsel) hs hc hn hkn (fun listed' a' hL => seqB_ready hL.1.1) l.length listed a inv (Region.free_spec h0 hf) hr' hy
      (wpAnyR_lexT hsel hs hc hn l (k + 1) _ _ (fun j hj => by have := hl (j + 1) (by simp; omega); simpa [Nat.add_assoc, Nat.add_comm 1 j] using this) (by simp only [List.length_cons] at hk; omega) (inv.set hr' hkn) hB' hK)
def lateB (ops : Array Oper) (n m : Nat) : Bool :=
  match ops[m]?, ops[n]? with
  | some om, some on =>
    decide (m < n) && ((List.range ops.size).all fun j => decide (j = n) || (match ops[j]? with | some o => o.after.all fun e => !Region.binds .text e || Region.binds .any e | none => true)) &&
      (on.after.all fun e => !Region.binds .text e || Region.binds .any e || decide (e.on = m)) &&
      (om.after.all fun e => !Region.binds .text e || on.after.any fun e' => Region.binds .any e' && decide (e'.on = e.on)) &&
      ((List.range ops.size).all fun j => decide (j < n) || (match ops[j]? with | some o => (o.after.any fun e => Region.binds .any e && decide (e.on = m)) || om.apart ops o | none => true))
  | _, _ => false
theorem late_of {n m : Nat} {om on : Oper} (hm : ops[m]? = some om) (hn : ops[n]? = some on) (h : lateB ops n m = true) : Late ops n m om on := by
  unfold lateB at h
  simp only [hm, hn, Bool.and_eq_true, decide_eq_true_eq] at h
  obtain ⟨⟨⟨⟨h1, h2⟩, h3⟩, h4⟩, h5⟩ := h
  refine ⟨hm, hn, h1, fun j o ho hj e he hb => ?_, fun e he hb => ?_, fun e he hb => ?_, fun j o ho hj hno => ?_⟩
  · have := List.all_eq_true.1 h2 j (List.mem_range.2 (Array.getElem?_eq_some_iff.1 ho).1)
    simp only [ho, hj, decide_false, Bool.false_or] at this
    have := Array.all_eq_true'.1 this e he
    simpa [hb] using this
  · have := Array.all_eq_true'.1 h3 e he
    simpa [hb] using this
  · have := Array.all_eq_true'.1 h4 e he
    simp only [hb, Bool.not_true, Bool.false_or] at this
    obtain ⟨e', he', h6⟩ := Array.any_eq_true'.1 this
    simp only [Bool.and_eq_true, decide_eq_true_eq] at h6
    exact ⟨e', he', h6⟩
  · have := List.all_eq_true.1 h5 j (List.mem_range.2 (Array.getElem?_eq_some_iff.1 ho).1)
    simp only [ho, show ¬ j < n by omega, decide_false, Bool.false_or, Bool.or_eq_true] at this
    rcases this with h6 | h6
    · obtain ⟨e', he', h7⟩ := Array.any_eq_true'.1 h6
      simp only [Bool.and_eq_true, decide_eq_true_eq] at h7
      exact absurd h7.2 (hno e' he' h7.1)
    · exact h6
def lexMB (ops : Array Oper) (z m : Nat) : Bool :=
  Region.noSelect ops && decide (z + 1 < ops.size) && Region.sinkB .text ops (z + 1) && Region.chainB .text ops (z + 1) && (Region.ready .text ops (Array.replicate ops.size false)).contains z &&
    ((List.range z).all fun j => match ops[z]?, ops[j]? with | some oz, some oj => oz.apart ops oj | _, _ => false) &&
    lexT ops (ops.size - (z + 1)) (z + 1) z 0 ((Array.replicate ops.size false).setIfInBounds z true) && Region.waitsFor .any ops (z + 1) z && lateB ops (z + 1) m
theorem wp_region_AM {id : Nat} {Q : Exit → Act → World → Prop} {a : Act} {w : World} {l : List Oper} (z m : Nat) {oz om on : Oper} {rest tl : List Oper} {obj : Obj} (W0 : World) (hm : P.follows .mixedOrders = true) (hB : lexMB l.toArray z m = true)
    (hS : Below W0.heap.size W0 w.drew) (hlz : l.drop z = oz :: on :: rest) (hlm : l.drop m = om :: tl) (hw : ∀ a, Region.wanted oz (yielded l.toArray a) = true)
    (hal : ∀ (a : Act) W, (execOp a.eval oz).run P W = .ok (.value (.pointer (some ⟨W.heap.size, 0, none⟩))) (W.alloc obj))
    (hpure : ∀ (S : World → Prop) (a : Act) v w w', Comes P S v ((execOp a.eval om).run P w) → (execOp a.eval om).run P w' = .ok (.value v) w')
    (hQ : ∀ c (a : Act) v w, Q (.panic c) (a.put om.dst v) w → Q (.panic c) a w)
    (h : wpHR P l.toArray W0 (fun a' => ∀ W1 W, Below W0.heap.size W0 W1 → Below (W1.alloc obj).heap.size (W1.alloc obj) W → wpList P l.toArray Q (on :: rest) (a'.put oz.dst (.pointer (some ⟨W1.heap.size, 0, none⟩))) W) (l.take z) a) :
    (Code.region id l.toArray true).wp P Q a w := by
  simp only [lexMB, Bool.and_eq_true, decide_eq_true_eq] at hB
  obtain ⟨⟨⟨⟨⟨⟨⟨⟨hsel, hn⟩, hs⟩, hc⟩, hr0⟩, hap⟩, hlex⟩, hnz⟩, hlate⟩ := hB
  have hn' : z + 1 < l.length := by simpa using hn
  have hoz : l.toArray[z]? = some oz := by
    have h0 : (l.drop z)[0]? = some oz := by rw [hlz]; rfl
    simpa [List.getElem?_drop] using h0
  have hom : l.toArray[m]? = some om := by
    have h0 : (l.drop m)[0]? = some om := by rw [hlm]; rfl
    simpa [List.getElem?_drop] using h0
  have hrest : ∀ j, (on :: rest)[j]? = l.toArray[z + 1 + j]? := fun j => by
    have h0 : (l.drop z)[j + 1]? = (on :: rest)[j]? := by rw [hlz]; rfl
    rw [← h0]
    simp [List.getElem?_drop]
    congr 1
    omega
  have hon : l.toArray[z + 1]? = some on := by have := hrest 0; simpa using this.symm
  have hrl : (on :: rest).length = l.toArray.size - (z + 1) := by
    have := congrArg List.length hlz
    simp at this ⊢
    omega
  have htl : (l.take z).length = z := by simp; omega
  have inv0 : HeadInv .text l.toArray (z + 1) (Array.replicate l.toArray.size false) :=
    ⟨by simp, fun j oj _ hl => (by rw [getD_replicate_false] at hl; cases hl), fun t _ ht => getD_in (by simpa using ht) (getD_replicate_false _ _)⟩
  have hr0' : z ∈ Region.ready .text l.toArray (Array.replicate l.toArray.size false) := by simpa using hr0
  have H := wpAnyR_lexT (g := l.toArray.size - (z + 1)) hsel hs hc hn (l.take z) 0 _ a (fun j hj => by
    have hj' : j < z := by rw [htl] at hj; exact hj
    simp [List.getElem?_take, hj']) (by rw [htl]; omega) (inv0.set hr0' (by omega)) (by rw [htl]; exact hlex) h
  refine wp_region_any hm ?_
  have hap' : ∀ j oj, j < z + 1 → j ≠ z → l.toArray[j]? = some oj → oz.apart l.toArray oj = true := fun j oj hj hjz hoj => by
    have h1 := List.all_eq_true.1 hap j (List.mem_range.2 (by omega))
    simpa only [hoz, hoj] using h1
  have := wpAny_alloc2 (Q := Q) (g := l.toArray.size - (z + 1)) (rest := on :: rest) (late_of hom hon hlate) (Region.noSelect_spec hsel) hs hc hn (by omega) hnz hoz hap' (fun a => hw a.tmps) hal hpure hQ hrest hrl (fun a' hT => hT) (l.take z).length _ a inv0 hr0' H w.drew hS
  rw [htl, show z + 1 + (l.toArray.size - (z + 1)) = l.toArray.size by omega] at this
  exact this
theorem wpAnyS_lexT {S : World → Prop} {n g : Nat} {T : Act → Prop} (hsel : Region.noSelect ops = true) (hs : Region.sinkB .text ops n = true) (hc : Region.chainB .text ops n = true) (hn : n < ops.size) :
    ∀ (l : List Oper) (k : Nat) (listed : Array Bool) (a : Act), (∀ j, j < l.length → l[j]? = ops[k + j]?) → k + l.length = n → HeadInv .text ops n listed →
    lexT ops g n l.length k listed = true → wpH P ops S T l a →
    wpAnyS P .text ops S n (fun listed' a' => (Region.seqB .text ops g n listed' = true ∧ Region.seqB .any ops g n listed' = true) ∧ T a') l.length listed a
  | [], k, listed, a, _, _, _, hB, h => by simp only [List.length_nil, lexT, Bool.and_eq_true] at hB; exact ⟨hB, h⟩
  | o :: l, k, listed, a, hl, hk, inv, hB, h => by
    have h0 : ops[k]? = some o := by simpa using (hl 0 (by simp)).symm
    simp only [List.length_cons, lexT, Bool.and_eq_true] at hB
    obtain ⟨⟨hr, hf⟩, hB'⟩ := hB
    have hkn : k < n := by simp only [List.length_cons] at hk; omega
    have hr' : k ∈ Region.ready .text ops listed := by simpa using hr
    obtain ⟨v, hy, hK⟩ := h
    exact wpAnyS_first h0 (Region.noSelect_spec hsel) hs hc hn hkn (fun listed' a' hL => seqB_ready hL.1.1) l.length listed a inv (Region.free_spec h0 hf) hr' hy
      (wpAnyS_lexT hsel hs hc hn l (k + 1) _ _ (fun j hj => by have := hl (j + 1) (by simp; omega); simpa [Nat.add_assoc, Nat.add_comm 1 j] using this) (by simp only [List.length_cons] at hk; omega) (inv.set hr' hkn) hB' hK)
def lexBMB (ops : Array Oper) (n m : Nat) : Bool :=
  Region.noSelect ops && decide (n < ops.size) && Region.sinkB .text ops n && Region.chainB .text ops n && lexT ops (ops.size - n) n n 0 (Array.replicate ops.size false) && lateB ops n m
theorem wp_region_BM {id : Nat} {Q : Exit → Act → World → Prop} {a : Act} {w : World} {l : List Oper} (n m : Nat) {om on : Oper} {rest tl : List Oper} (S : World → Prop) (hm : P.follows .mixedOrders = true) (hB : lexBMB l.toArray n m = true)
    (hS : S w.drew) (hln : l.drop n = on :: rest) (hlm : l.drop m = om :: tl)
    (hpure : ∀ (S : World → Prop) (a : Act) v w w', Comes P S v ((execOp a.eval om).run P w) → (execOp a.eval om).run P w' = .ok (.value v) w')
    (hQ : ∀ c (a : Act) v w, Q (.panic c) (a.put om.dst v) w → Q (.panic c) a w)
    (h : wpH P l.toArray S (fun a' => ∀ W, S W → wpList P l.toArray Q (l.drop n) a' W) (l.take n) a) : (Code.region id l.toArray true).wp P Q a w := by
  simp only [lexBMB, Bool.and_eq_true, decide_eq_true_eq] at hB
  obtain ⟨⟨⟨⟨⟨hsel, hn⟩, hs⟩, hc⟩, hlex⟩, hlate⟩ := hB
  have hn' : n < l.length := by simpa using hn
  have hom : l.toArray[m]? = some om := by
    have h0 : (l.drop m)[0]? = some om := by rw [hlm]; rfl
    simpa [List.getElem?_drop] using h0
  have hon : l.toArray[n]? = some on := by
    have h0 : (l.drop n)[0]? = some on := by rw [hln]; rfl
    simpa [List.getElem?_drop] using h0
  have htl : (l.take n).length = n := by simp; omega
  have hdl : (l.drop n).length = l.toArray.size - n := by simp
  have inv0 : HeadInv .text l.toArray n (Array.replicate l.toArray.size false) :=
    ⟨by simp, fun j oj _ hl => (by rw [getD_replicate_false] at hl; cases hl), fun t _ ht => getD_in (by simpa using ht) (getD_replicate_false _ _)⟩
  have H := wpAnyS_lexT (g := l.toArray.size - n) hsel hs hc hn (l.take n) 0 _ a (fun j hj => by
    have hj' : j < n := by rw [htl] at hj; exact hj
    simp [List.getElem?_take, hj']) (by rw [htl]; omega) inv0 (by rw [htl]; exact hlex) h
  refine wp_region_any hm ?_
  have := wpAny_late (Q := Q) (g := l.toArray.size - n) (late_of hom hon hlate) (Region.noSelect_spec hsel) hs hc hn (fun a v w w' _ h => hpure _ a v w w' h) hQ (fun l' a' hLL W' hW' => by
    have := wpAny_of_seq (md := .any) (Q' := Q) (l.drop n) n l' _ W' (fun j => by simp [List.getElem?_drop]) (by rw [hdl]; exact hLL.1.2) (hLL.2 W' hW')
    rwa [hdl] at this) (l.take n).length _ a inv0 H w.drew hS
  rw [htl, show n + (l.toArray.size - n) = l.toArray.size by omega] at this
  exact this
theorem extract_pure {P : Program} {S : World → Prop} {o : Oper} {x : Operand} {i : Nat} (ho : o.op = .extract x i) {a : Act} {v : Value} {w w' : World} (h : Comes P S v ((execOp a.eval o).run P w)) : (execOp a.eval o).run P w' = .ok (.value v) w' := by
  unfold execOp at *
  rw [ho] at *
  simp only [] at *
  generalize a.eval x = y at *
  cases y with
  | tuple vs =>
    simp [go_sem] at h ⊢
    cases hv : vs[i]? with
    | none => rw [hv] at h; simp [go_sem, stuck, Comes] at h
    | some u =>
      rw [hv] at h
      simp [go_sem, Comes] at h ⊢
      exact h.1
  | _ => simp [go_sem, stuck, Comes] at h
end
end Go.Proofs.Ytjkfdcjfoliboaa
/- contracts: lines that meet, on both sides -/
namespace Go.Proofs.Ytjkfdcjfoliboaa
open Go.ChangeShapes Go.WideShapes Go.ChangeAt Go.RowKit Go.Joins
set_option linter.unusedVariables false
set_option linter.unusedSimpArgs false
set_option maxRecDepth 4000
theorem sgn_pr (m n : Int) : -1 ≤ sgn m * sgn n ∧ sgn m * sgn n ≤ 1 := by
  have h1 := sgn_01 m
  have h2 := sgn_01 n
  exact mul_bd (m := 1) (n := 1) (by omega) (by omega) (by omega) (by omega)
theorem held4 {w W W' : World} {a1 a2 b1 b2 c1 c2 d1 d2 : Int} (h : Below w.heap.size w W ∧ w.heap.size + 3 < W.heap.size ∧ W.cell? ⟨w.heap.size, 0, none⟩ = some (.int .i64 a1) ∧ W.cell? ⟨w.heap.size, 1, none⟩ = some (.int .i64 a2) ∧ W.cell? ⟨w.heap.size + 1, 0, none⟩ = some (.int .i64 b1) ∧ W.cell? ⟨w.heap.size + 1, 1, none⟩ = some (.int .i64 b2) ∧ W.cell? ⟨w.heap.size + 2, 0, none⟩ = some (.int .i64 c1) ∧ W.cell? ⟨w.heap.size + 2, 1, none⟩ = some (.int .i64 c2) ∧ W.cell? ⟨w.heap.size + 3, 0, none⟩ = some (.int .i64 d1) ∧ W.cell? ⟨w.heap.size + 3, 1, none⟩ = some (.int .i64 d2)) (hb : Below W.heap.size W W') : Below w.heap.size w W' ∧ w.heap.size + 3 < W'.heap.size ∧ W'.cell? ⟨w.heap.size, 0, none⟩ = some (.int .i64 a1) ∧ W'.cell? ⟨w.heap.size, 1, none⟩ = some (.int .i64 a2) ∧ W'.cell? ⟨w.heap.size + 1, 0, none⟩ = some (.int .i64 b1) ∧ W'.cell? ⟨w.heap.size + 1, 1, none⟩ = some (.int .i64 b2) ∧ W'.cell? ⟨w.heap.size + 2, 0, none⟩ = some (.int .i64 c1) ∧ W'.cell? ⟨w.heap.size + 2, 1, none⟩ = some (.int .i64 c2) ∧ W'.cell? ⟨w.heap.size + 3, 0, none⟩ = some (.int .i64 d1) ∧ W'.cell? ⟨w.heap.size + 3, 1, none⟩ = some (.int .i64 d2) := by
  obtain ⟨h1, h2, h3, h4, h5, h6, h7, h8, h9, h10⟩ := h
  have hc := (bcell hb).1
  have hz := hb.size
  have hz1 := h1.size
  exact ⟨h1.trans (hb.mono hz1), by omega, by rw [hc _ _ (by omega), h3], by rw [hc _ _ (by omega), h4], by rw [hc _ _ (by omega), h5], by rw [hc _ _ (by omega), h6], by rw [hc _ _ (by omega), h7], by rw [hc _ _ (by omega), h8], by rw [hc _ _ (by omega), h9], by rw [hc _ _ (by omega), h10]⟩
end Go.Proofs.Ytjkfdcjfoliboaa
/- contracts: lines that meet, the program's side -/
namespace Go.Proofs.Ytjkfdcjfoliboaa
open Go.ChangeShapes Go.WideShapes Go.ChangeAt Go.RowKit Go.Joins
set_option linter.unusedVariables false
set_option linter.unusedSimpArgs false
set_option maxRecDepth 4000
theorem sz_of {x y : Int} (h : isPegB x y = true) : Sz x y := by unfold isPegB at h; simp at h; unfold Sz; omega
theorem tw_bd40 {a1 a2 b1 b2 c1 c2 : Int} (ha : isPegB a1 a2 = true) (hb : isPegB b1 b2 = true) (hc : isPegB c1 c2 = true) : -12800 ≤ twI a1 a2 b1 b2 c1 c2 ∧ twI a1 a2 b1 b2 c1 c2 ≤ 12800 := by
  unfold isPegB at *
  simp at ha hb hc
  have h1 := mul_bd (x := b1 - a1) (y := c2 - a2) (m := 80) (n := 80) (by omega) (by omega) (by omega) (by omega)
  have h2 := mul_bd (x := b2 - a2) (y := c1 - a1) (m := 80) (n := 80) (by omega) (by omega) (by omega) (by omega)
  unfold twI; omega
end Go.Proofs.Ytjkfdcjfoliboaa
/- worlds in which the boxes of a call's points stand -/
namespace Go.Proofs.Ytjkfdcjfoliboaa
open Go.ChangeShapes Go.WideShapes Go.ChangeAt Go.RowKit Go.Joins
set_option linter.unusedVariables false
set_option linter.unusedSimpArgs false
set_option maxRecDepth 4000
theorem held1 {w W W' : World} {a1 a2 : Int} (h : Below w.heap.size w W ∧ w.heap.size + 0 < W.heap.size ∧ W.cell? ⟨w.heap.size, 0, none⟩ = some (.int .i64 a1) ∧ W.cell? ⟨w.heap.size, 1, none⟩ = some (.int .i64 a2)) (hb : Below W.heap.size W W') : Below w.heap.size w W' ∧ w.heap.size + 0 < W'.heap.size ∧ W'.cell? ⟨w.heap.size, 0, none⟩ = some (.int .i64 a1) ∧ W'.cell? ⟨w.heap.size, 1, none⟩ = some (.int .i64 a2) := by
  obtain ⟨h1, h2, h3, h4⟩ := h
  have hc := (bcell hb).1
  have hz := hb.size
  have hz1 := h1.size
  exact ⟨h1.trans (hb.mono hz1), by omega, by rw [hc _ _ (by omega), h3], by rw [hc _ _ (by omega), h4]⟩
theorem held2 {w W W' : World} {a1 a2 b1 b2 : Int} (h : Below w.heap.size w W ∧ w.heap.size + 1 < W.heap.size ∧ W.cell? ⟨w.heap.size, 0, none⟩ = some (.int .i64 a1) ∧ W.cell? ⟨w.heap.size, 1, none⟩ = some (.int .i64 a2) ∧ W.cell? ⟨w.heap.size + 1, 0, none⟩ = some (.int .i64 b1) ∧ W.cell? ⟨w.heap.size + 1, 1, none⟩ = some (.int .i64 b2)) (hb : Below W.heap.size W W') : Below w.heap.size w W' ∧ w.heap.size + 1 < W'.heap.size ∧ W'.cell? ⟨w.heap.size, 0, none⟩ = some (.int .i64 a1) ∧ W'.cell? ⟨w.heap.size, 1, none⟩ = some (.int .i64 a2) ∧ W'.cell? ⟨w.heap.size + 1, 0, none⟩ = some (.int .i64 b1) ∧ W'.cell? ⟨w.heap.size + 1, 1, none⟩ = some (.int .i64 b2) := by
  obtain ⟨h1, h2, h3, h4, h5, h6⟩ := h
  have hc := (bcell hb).1
  have hz := hb.size
  have hz1 := h1.size
  exact ⟨h1.trans (hb.mono hz1), by omega, by rw [hc _ _ (by omega), h3], by rw [hc _ _ (by omega), h4], by rw [hc _ _ (by omega), h5], by rw [hc _ _ (by omega), h6]⟩
theorem held3 {w W W' : World} {a1 a2 b1 b2 c1 c2 : Int} (h : Below w.heap.size w W ∧ w.heap.size + 2 < W.heap.size ∧ W.cell? ⟨w.heap.size, 0, none⟩ = some (.int .i64 a1) ∧ W.cell? ⟨w.heap.size, 1, none⟩ = some (.int .i64 a2) ∧ W.cell? ⟨w.heap.size + 1, 0, none⟩ = some (.int .i64 b1) ∧ W.cell? ⟨w.heap.size + 1, 1, none⟩ = some (.int .i64 b2) ∧ W.cell? ⟨w.heap.size + 2, 0, none⟩ = some (.int .i64 c1) ∧ W.cell? ⟨w.heap.size + 2, 1, none⟩ = some (.int .i64 c2)) (hb : Below W.heap.size W W') : Below w.heap.size w W' ∧ w.heap.size + 2 < W'.heap.size ∧ W'.cell? ⟨w.heap.size, 0, none⟩ = some (.int .i64 a1) ∧ W'.cell? ⟨w.heap.size, 1, none⟩ = some (.int .i64 a2) ∧ W'.cell? ⟨w.heap.size + 1, 0, none⟩ = some (.int .i64 b1) ∧ W'.cell? ⟨w.heap.size + 1, 1, none⟩ = some (.int .i64 b2) ∧ W'.cell? ⟨w.heap.size + 2, 0, none⟩ = some (.int .i64 c1) ∧ W'.cell? ⟨w.heap.size + 2, 1, none⟩ = some (.int .i64 c2) := by
  obtain ⟨h1, h2, h3, h4, h5, h6, h7, h8⟩ := h
  have hc := (bcell hb).1
  have hz := hb.size
  have hz1 := h1.size
  exact ⟨h1.trans (hb.mono hz1), by omega, by rw [hc _ _ (by omega), h3], by rw [hc _ _ (by omega), h4], by rw [hc _ _ (by omega), h5], by rw [hc _ _ (by omega), h6], by rw [hc _ _ (by omega), h7], by rw [hc _ _ (by omega), h8]⟩
theorem box1 (w : World) (t : TypeId) (a1 a2 : Int) : Below w.heap.size w (w.alloc (.cells #[.int .i64 a1, .int .i64 a2] t)) ∧ w.heap.size + 0 < (w.alloc (.cells #[.int .i64 a1, .int .i64 a2] t)).heap.size ∧ (w.alloc (.cells #[.int .i64 a1, .int .i64 a2] t)).cell? ⟨w.heap.size, 0, none⟩ = some (.int .i64 a1) ∧ (w.alloc (.cells #[.int .i64 a1, .int .i64 a2] t)).cell? ⟨w.heap.size, 1, none⟩ = some (.int .i64 a2) :=
  ⟨Below.alloc (Below.refl _ _) (by simp <;> omega) _, by simp <;> omega, by go_simp, by go_simp⟩
theorem box2 (w : World) (t : TypeId) (a1 a2 b1 b2 : Int) : Below w.heap.size w ((w.alloc (.cells #[.int .i64 a1, .int .i64 a2] t)).alloc (.cells #[.int .i64 b1, .int .i64 b2] t)) ∧ w.heap.size + 1 < ((w.alloc (.cells #[.int .i64 a1, .int .i64 a2] t)).alloc (.cells #[.int .i64 b1, .int .i64 b2] t)).heap.size ∧ ((w.alloc (.cells #[.int .i64 a1, .int .i64 a2] t)).alloc (.cells #[.int .i64 b1, .int .i64 b2] t)).cell? ⟨w.heap.size, 0, none⟩ = some (.int .i64 a1) ∧ ((w.alloc (.cells #[.int .i64 a1, .int .i64 a2] t)).alloc (.cells #[.int .i64 b1, .int .i64 b2] t)).cell? ⟨w.heap.size, 1, none⟩ = some (.int .i64 a2) ∧ ((w.alloc (.cells #[.int .i64 a1, .int .i64 a2] t)).alloc (.cells #[.int .i64 b1, .int .i64 b2] t)).cell? ⟨w.heap.size + 1, 0, none⟩ = some (.int .i64 b1) ∧ ((w.alloc (.cells #[.int .i64 a1, .int .i64 a2] t)).alloc (.cells #[.int .i64 b1, .int .i64 b2] t)).cell? ⟨w.heap.size + 1, 1, none⟩ = some (.int .i64 b2) :=
  ⟨Below.alloc (Below.alloc (Below.refl _ _) (by simp <;> omega) _) (by simp <;> omega) _, by simp <;> omega, by go_simp, by go_simp, by go_simp, by go_simp⟩
theorem box3 (w : World) (t : TypeId) (a1 a2 b1 b2 c1 c2 : Int) : Below w.heap.size w (((w.alloc (.cells #[.int .i64 a1, .int .i64 a2] t)).alloc (.cells #[.int .i64 b1, .int .i64 b2] t)).alloc (.cells #[.int .i64 c1, .int .i64 c2] t)) ∧ w.heap.size + 2 < (((w.alloc (.cells #[.int .i64 a1, .int .i64 a2] t)).alloc (.cells #[.int .i64 b1, .int .i64 b2] t)).alloc (.cells #[.int .i64 c1, .int .i64 c2] t)).heap.size ∧ (((w.alloc (.cells #[.int .i64 a1, .int .i64 a2] t)).alloc (.cells #[.int .i64 b1, .int .i64 b2] t)).alloc (.cells #[.int .i64 c1, .int .i64 c2] t)).cell? ⟨w.heap.size, 0, none⟩ = some (.int .i64 a1) ∧ (((w.alloc (.cells #[.int .i64 a1, .int .i64 a2] t)).alloc (.cells #[.int .i64 b1, .int .i64 b2] t)).alloc (.cells #[.int .i64 c1, .int .i64 c2] t)).cell? ⟨w.heap.size, 1, none⟩ = some (.int .i64 a2) ∧ (((w.alloc (.cells #[.int .i64 a1, .int .i64 a2] t)).alloc (.cells #[.int .i64 b1, .int .i64 b2] t)).alloc (.cells #[.int .i64 c1, .int .i64 c2] t)).cell? ⟨w.heap.size + 1, 0, none⟩ = some (.int .i64 b1) ∧ (((w.alloc (.cells #[.int .i64 a1, .int .i64 a2] t)).alloc (.cells #[.int .i64 b1, .int .i64 b2] t)).alloc (.cells #[.int .i64 c1, .int .i64 c2] t)).cell? ⟨w.heap.size + 1, 1, none⟩ = some (.int .i64 b2) ∧ (((w.alloc (.cells #[.int .i64 a1, .int .i64 a2] t)).alloc (.cells #[.int .i64 b1, .int .i64 b2] t)).alloc (.cells #[.int .i64 c1, .int .i64 c2] t)).cell? ⟨w.heap.size + 2, 0, none⟩ = some (.int .i64 c1) ∧ (((w.alloc (.cells #[.int .i64 a1, .int .i64 a2] t)).alloc (.cells #[.int .i64 b1, .int .i64 b2] t)).alloc (.cells #[.int .i64 c1, .int .i64 c2] t)).cell? ⟨w.heap.size + 2, 1, none⟩ = some (.int .i64 c2) :=
  ⟨Below.alloc (Below.alloc (Below.alloc (Below.refl _ _) (by simp <;> omega) _) (by simp <;> omega) _) (by simp <;> omega) _, by simp <;> omega, by go_simp, by go_simp, by go_simp, by go_simp, by go_simp, by go_simp⟩
theorem box4 (w : World) (t : TypeId) (a1 a2 b1 b2 c1 c2 d1 d2 : Int) : Below w.heap.size w ((((w.alloc (.cells #[.int .i64 a1, .int .i64 a2] t)).alloc (.cells #[.int .i64 b1, .int .i64 b2] t)).alloc (.cells #[.int .i64 c1, .int .i64 c2] t)).alloc (.cells #[.int .i64 d1, .int .i64 d2] t)) ∧ w.heap.size + 3 < ((((w.alloc (.cells #[.int .i64 a1, .int .i64 a2] t)).alloc (.cells #[.int .i64 b1, .int .i64 b2] t)).alloc (.cells #[.int .i64 c1, .int .i64 c2] t)).alloc (.cells #[.int .i64 d1, .int .i64 d2] t)).heap.size ∧ ((((w.alloc (.cells #[.int .i64 a1, .int .i64 a2] t)).alloc (.cells #[.int .i64 b1, .int .i64 b2] t)).alloc (.cells #[.int .i64 c1, .int .i64 c2] t)).alloc (.cells #[.int .i64 d1, .int .i64 d2] t)).cell? ⟨w.heap.size, 0, none⟩ = some (.int .i64 a1) ∧ ((((w.alloc (.cells #[.int .i64 a1, .int .i64 a2] t)).alloc (.cells #[.int .i64 b1, .int .i64 b2] t)).alloc (.cells #[.int .i64 c1, .int .i64 c2] t)).alloc (.cells #[.int .i64 d1, .int .i64 d2] t)).cell? ⟨w.heap.size, 1, none⟩ = some (.int .i64 a2) ∧ ((((w.alloc (.cells #[.int .i64 a1, .int .i64 a2] t)).alloc (.cells #[.int .i64 b1, .int .i64 b2] t)).alloc (.cells #[.int .i64 c1, .int .i64 c2] t)).alloc (.cells #[.int .i64 d1, .int .i64 d2] t)).cell? ⟨w.heap.size + 1, 0, none⟩ = some (.int .i64 b1) ∧ ((((w.alloc (.cells #[.int .i64 a1, .int .i64 a2] t)).alloc (.cells #[.int .i64 b1, .int .i64 b2] t)).alloc (.cells #[.int .i64 c1, .int .i64 c2] t)).alloc (.cells #[.int .i64 d1, .int .i64 d2] t)).cell? ⟨w.heap.size + 1, 1, none⟩ = some (.int .i64 b2) ∧ ((((w.alloc (.cells #[.int .i64 a1, .int .i64 a2] t)).alloc (.cells #[.int .i64 b1, .int .i64 b2] t)).alloc (.cells #[.int .i64 c1, .int .i64 c2] t)).alloc (.cells #[.int .i64 d1, .int .i64 d2] t)).cell? ⟨w.heap.size + 2, 0, none⟩ = some (.int .i64 c1) ∧ ((((w.alloc (.cells #[.int .i64 a1, .int .i64 a2] t)).alloc (.cells #[.int .i64 b1, .int .i64 b2] t)).alloc (.cells #[.int .i64 c1, .int .i64 c2] t)).alloc (.cells #[.int .i64 d1, .int .i64 d2] t)).cell? ⟨w.heap.size + 2, 1, none⟩ = some (.int .i64 c2) ∧ ((((w.alloc (.cells #[.int .i64 a1, .int .i64 a2] t)).alloc (.cells #[.int .i64 b1, .int .i64 b2] t)).alloc (.cells #[.int .i64 c1, .int .i64 c2] t)).alloc (.cells #[.int .i64 d1, .int .i64 d2] t)).cell? ⟨w.heap.size + 3, 0, none⟩ = some (.int .i64 d1) ∧ ((((w.alloc (.cells #[.int .i64 a1, .int .i64 a2] t)).alloc (.cells #[.int .i64 b1, .int .i64 b2] t)).alloc (.cells #[.int .i64 c1, .int .i64 c2] t)).alloc (.cells #[.int .i64 d1, .int .i64 d2] t)).cell? ⟨w.heap.size + 3, 1, none⟩ = some (.int .i64 d2) :=
  ⟨Below.alloc (Below.alloc (Below.alloc (Below.alloc (Below.refl _ _) (by simp <;> omega) _) (by simp <;> omega) _) (by simp <;> omega) _) (by simp <;> omega) _, by simp <;> omega, by go_simp, by go_simp, by go_simp, by go_simp, by go_simp, by go_simp, by go_simp, by go_simp⟩
end Go.Proofs.Ytjkfdcjfoliboaa
/- how many steps a line has -/
namespace Go.Proofs.Ytjkfdcjfoliboaa
open Go.ChangeShapes Go.WideShapes Go.ChangeAt Go.RowKit Go.Joins
set_option linter.unusedVariables false
set_option linter.unusedSimpArgs false
set_option maxRecDepth 4000
/-- the number of steps of a line -/
def stepN (a1 a2 b1 b2 : Int) : Int := ((Nat.gcd (a1 - b1).natAbs (a2 - b2).natAbs : Nat) : Int)
theorem stepN_bd {a1 a2 b1 b2 : Int} (ha : isPegB a1 a2 = true) (hb : isPegB b1 b2 = true) : 0 ≤ stepN a1 a2 b1 b2 ∧ stepN a1 a2 b1 b2 ≤ 160 := by
  unfold isPegB at *
  simp at ha hb
  unfold stepN
  rcases Nat.eq_zero_or_pos (a1 - b1).natAbs with h | h
  · rw [h, Nat.gcd_zero_left]; omega
  · have := Nat.le_of_dvd h (Nat.gcd_dvd_left (a1 - b1).natAbs (a2 - b2).natAbs); omega
end Go.Proofs.Ytjkfdcjfoliboaa

