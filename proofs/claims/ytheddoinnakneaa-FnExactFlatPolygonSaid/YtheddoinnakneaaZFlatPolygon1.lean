/- joined: A B C D L E F R G H I Fa Fb Wq1 N K Ki Ks Ms O Q S Sax La -/
import Derived.Test.YtheddoinnakneaaRows
import Derived.WalkKit
import Derived.ProofKit
import Derived.OpenShut
import Derived.Outline
import Derived.Lib.SmallJoins
import Derived.Below
import Derived.Carry
import Derived.Lib.Hide
import Derived.OrdersHeld
import Derived.LoopTactic
import Derived.Deep.QuietTactic
import Derived.BigQuiet
import Derived.Laws.MakeOwn
import Derived.OwnWalk
import Derived.Deep.LoopGhost
import Derived.Laws.OwnMore
import Derived.RegionTactic
/- contracts of the small functions over pegs -/
namespace Go.Proofs.Ytheddoinnakneaa
open Go.ChangeShapes Go.WideShapes Go.ChangeAt Go.RowKit Go.Joins
set_option linter.unusedVariables false

theorem l1In_any (n lo hi : Int) (w : World) :
    Calls Try.prog 58 #[.int .i64 n, .int .i64 lo, .int .i64 hi] w fun e w' => e = .returned (.bool (decide (lo ≤ n) && decide (n ≤ hi))) ∧ w = w' := by
  by_cases h1 : lo ≤ n <;> by_cases h2 : n ≤ hi
  all_goals
    go_enter Try.func58, Try.ntmps58
    go_wp2
    go_ret
    exact ⟨by simp [h1, h2], rfl⟩
theorem isOfSize_any (n m : Int) (w : World) (hm : 0 ≤ m) (hm' : m ≤ 1000) :
    Calls Try.prog 111 #[.int .i64 n, .int .i64 m] w fun e w' => e = .returned (.bool (decide (-m ≤ n) && decide (n ≤ m))) ∧ w = w' := by
  by_cases h1 : -m ≤ n <;> by_cases h2 : n ≤ m
  all_goals
    go_enter Try.func111, Try.ntmps111
    go_wp2
    go_ret
    exact ⟨by simp [h1, h2], rfl⟩
end Go.Proofs.Ytheddoinnakneaa
/- contracts of the small functions over pegs -/
namespace Go.Proofs.Ytheddoinnakneaa
open Go.ChangeShapes Go.WideShapes Go.ChangeAt Go.RowKit Go.Joins
set_option linter.unusedVariables false
theorem bcell {W w1 : World} (hb : Below W.heap.size W w1) : (∀ b o, b < W.heap.size → w1.cell? ⟨b, o, none⟩ = W.cell? ⟨b, o, none⟩) ∧ (∀ b o, b < W.heap.size → w1.frozen? ⟨b, o, none⟩ = W.frozen? ⟨b, o, none⟩) :=
  ⟨fun b o h => hb.cell (p := ⟨b, o, none⟩) h, fun b o h => hb.frozen (p := ⟨b, o, none⟩) h⟩
/-- a peg's two numbers are of size 40 at most -/
def isPegB (x y : Int) : Bool := decide (-40 ≤ x) && decide (x ≤ 40) && (decide (-40 ≤ y) && decide (y ≤ 40))
theorem pgIs_any (x y : Int) (w : World) :
    Calls Try.prog 83 #[.agg #[.int .i64 x, .int .i64 y]] w fun e w' => e = .returned (.bool (isPegB x y)) ∧ Below w.heap.size w w' := by
  by_cases h1 : (decide (-40 ≤ x) && decide (x ≤ 40)) = true
  all_goals
    go_enter Try.func83, Try.ntmps83
    go_wp2_with (go_at_call 58; refine (l1In_any _ _ _ _).mono ?_; rintro e w' ⟨rfl, rfl⟩)
    go_ret
    exact ⟨by simp [isPegB, h1], by repeat (first | exact Below.refl _ _ | apply Below.drew | (apply Below.alloc; rotate_left; simp))⟩
end Go.Proofs.Ytheddoinnakneaa
/- contracts of the small functions over pegs: turns, points on lines -/
namespace Go.Proofs.Ytheddoinnakneaa
open Go.ChangeShapes Go.WideShapes Go.ChangeAt Go.RowKit Go.Joins
set_option linter.unusedVariables false
set_option linter.unusedSimpArgs false
set_option maxRecDepth 4000
theorem mul_bd {x y m n : Int} (h1 : -m ≤ x) (h2 : x ≤ m) (h3 : -n ≤ y) (h4 : y ≤ n) : -(m * n) ≤ x * y ∧ x * y ≤ m * n := by
  have hm : 0 ≤ m := by omega
  have hn : 0 ≤ n := by omega
  have a1 := Int.mul_nonneg (show 0 ≤ m - x by omega) (show 0 ≤ n - y by omega)
  have a2 := Int.mul_nonneg (show 0 ≤ m + x by omega) (show 0 ≤ n + y by omega)
  have a3 := Int.mul_nonneg (show 0 ≤ m - x by omega) (show 0 ≤ n + y by omega)
  have a4 := Int.mul_nonneg (show 0 ≤ m + x by omega) (show 0 ≤ n - y by omega)
  constructor <;> grind
/-- both numbers of a point are of size 100000 at most -/
def Sz (x y : Int) : Prop := -100000 ≤ x ∧ x ≤ 100000 ∧ -100000 ≤ y ∧ y ≤ 100000
theorem prod_bd {a b c d : Int} (ha : -100000 ≤ a ∧ a ≤ 100000) (hb : -100000 ≤ b ∧ b ≤ 100000) (hc : -100000 ≤ c ∧ c ≤ 100000) (hd : -100000 ≤ d ∧ d ≤ 100000) :
    -40000000000 ≤ (a - b) * (c - d) ∧ (a - b) * (c - d) ≤ 40000000000 :=
  mul_bd (m := 200000) (n := 200000) (by omega) (by omega) (by omega) (by omega)
/-- twice the area of a triangle, greater than 0 to the left -/
def twI (a1 a2 b1 b2 c1 c2 : Int) : Int := (b1 - a1) * (c2 - a2) - (b2 - a2) * (c1 - a1)
theorem ret_int {k : IntKind} {a b : Int} (h : a = b) : Ending.returned (.int k a) = .returned (.int k b) := by rw [h]
theorem ret_bool {a b : Bool} (h : a = b) : Ending.returned (.bool a) = .returned (.bool b) := by rw [h]
theorem pgTurn_any (a1 a2 b1 b2 c1 c2 : Int) (w : World) (ha : Sz a1 a2) (hb : Sz b1 b2) (hc : Sz c1 c2) :
    Calls Try.prog 84 #[.agg #[.int .i64 a1, .int .i64 a2], .agg #[.int .i64 b1, .int .i64 b2], .agg #[.int .i64 c1, .int .i64 c2]] w fun e w' => e = .returned (.int .i64 (twI a1 a2 b1 b2 c1 c2)) ∧ Below w.heap.size w w' := by
  obtain ⟨x1, x2, x3, x4⟩ := ha
  obtain ⟨x5, x6, x7, x8⟩ := hb
  obtain ⟨x9, x10, x11, x12⟩ := hc
  obtain ⟨p1, p2⟩ := prod_bd (a := b1) (b := a1) (c := c2) (d := a2) (by omega) (by omega) (by omega) (by omega)
  obtain ⟨p3, p4⟩ := prod_bd (a := b2) (b := a2) (c := c1) (d := a1) (by omega) (by omega) (by omega) (by omega)
  go_enter Try.func84, Try.ntmps84
  go_wp2
  go_ret
  exact ⟨ret_int (by unfold twI; omega), (by repeat (first | exact Below.refl _ _ | assumption | apply Below.drew | refine Below.alloc ?_ (by simp <;> omega) _))⟩
theorem twiceThree_any (a1 a2 b1 b2 c1 c2 : Int) (w : World) (ha : Sz a1 a2) (hb : Sz b1 b2) (hc : Sz c1 c2) :
    Calls Try.prog 124 #[.agg #[.int .i64 a1, .int .i64 a2], .agg #[.int .i64 b1, .int .i64 b2], .agg #[.int .i64 c1, .int .i64 c2]] w fun e w' => e = .returned (.int .i64 (twI a1 a2 b1 b2 c1 c2)) ∧ Below w.heap.size w w' := by
  obtain ⟨x1, x2, x3, x4⟩ := ha
  obtain ⟨x5, x6, x7, x8⟩ := hb
  obtain ⟨x9, x10, x11, x12⟩ := hc
  obtain ⟨p1, p2⟩ := prod_bd (a := b1) (b := a1) (c := c2) (d := a2) (by omega) (by omega) (by omega) (by omega)
  obtain ⟨p3, p4⟩ := prod_bd (a := c1) (b := a1) (c := b2) (d := a2) (by omega) (by omega) (by omega) (by omega)
  go_enter Try.func124, Try.ntmps124
  go_wp2
  go_ret
  exact ⟨ret_int (by unfold twI; rw [Int.mul_comm (c1 - a1)]), (by repeat (first | exact Below.refl _ _ | assumption | apply Below.drew | refine Below.alloc ?_ (by simp <;> omega) _))⟩
end Go.Proofs.Ytheddoinnakneaa
/- contracts: a point of the laws' package made one of the program's; IsPeg on both sides -/
namespace Go.Proofs.Ytheddoinnakneaa
open Go.ChangeShapes Go.WideShapes Go.ChangeAt Go.RowKit Go.Joins
set_option linter.unusedVariables false
set_option linter.unusedSimpArgs false
set_option maxRecDepth 4000
theorem toPeg_any (a1 a2 : Int) (w : World) :
    Calls Try.prog 54 #[.agg #[.int .i64 a1, .int .i64 a2]] w fun e w' => e = .returned (.agg #[.int .i64 a1, .int .i64 a2]) ∧ Below w.heap.size w w' := by
  go_enter Try.func54, Try.ntmps54
  go_wp2
  exact bodyPost_ret (v := .agg #[.int .i64 a1, .int .i64 a2]) (by simp [results, Try.results54, go_sem]) rfl ⟨rfl, (by repeat (first | exact Below.refl _ _ | assumption | apply Below.drew | refine Below.alloc ?_ (by simp <;> omega) _))⟩
theorem implIsPeg_any (x1 x2 : Int) (w : World) :
    Calls Try.prog 123 #[.agg #[.int .i64 x1, .int .i64 x2]] w fun e w' => e = .returned (.bool (isPegB x1 x2)) ∧ Below w.heap.size w w' := by
  by_cases h1 : (decide (-40 ≤ x1) && decide (x1 ≤ 40)) = true
  all_goals
    go_enter Try.func123, Try.ntmps123
    go_wp2_with (go_at_call 111; refine (isOfSize_any _ _ _ (by omega) (by omega)).mono ?_; rintro e w' ⟨rfl, rfl⟩)
    go_ret
    exact ⟨by simp [isPegB, h1], (by repeat (first | exact Below.refl _ _ | assumption | apply Below.drew | refine Below.alloc ?_ (by simp <;> omega) _))⟩
end Go.Proofs.Ytheddoinnakneaa
/- the last step of each law: it returned true, and nothing that was there has turned: so the arguments read as they did -/
namespace Go.Proofs.Ytheddoinnakneaa
open Go.ChangeShapes Go.WideShapes Go.ChangeAt Go.RowKit Go.Joins
set_option linter.unusedVariables false
set_option linter.unusedSimpArgs false
set_option maxRecDepth 4000
theorem own : ownKnob Try.prog.godebug = none := by kernel_rfl
theorem laidOut : laidOutB Try.prog = true := by kernel_rfl
section
variable {H : Type} {enc : TypeId × Value → H}
theorem trods_stay {P : Program} (hl : laidOutB P = true) {W W' : World} (hb : Below W.heap.size W W') (ts : List TypeId) : ∀ (vs : List Value) (ds : List (DataW H)) (ps : List MemPlace), (∀ t ∈ ts, P.readableRec t = true ∧ t < P.types.size) →
    DataW.TrodAll enc P W 0 (fun _ => true) true ts vs ds ps → (∀ x ∈ ps, x.block < W.heap.size) →
    DataW.TrodAll enc P W' 0 (fun b => decide (b < W.heap.size)) true ts vs ds ps := by
  induction ts with
  | nil =>
    intro vs ds ps _ h _
    cases vs with
    | nil => cases ds with
      | nil => exact h
      | cons d ds => exact h.elim
    | cons v vs => exact h.elim
  | cons t ts ih =>
    intro vs ds ps ht h hl'
    cases vs with
    | nil => exact h.elim
    | cons v vs => cases ds with
      | nil => exact h.elim
      | cons d ds =>
        obtain ⟨p, q, h1, h2, rfl⟩ := h
        have hf := ht t (List.mem_cons_self ..)
        exact ⟨p, q, Below.trod hl hf.1 hf.2 h1 hb (fun x hx => hl' x (List.mem_append.2 (Or.inl hx))),
          ih vs ds q (fun t' h' => ht t' (List.mem_cons_of_mem _ h')) h2 (fun x hx => hl' x (List.mem_append.2 (Or.inr hx))), rfl⟩
theorem law_done {f : Func} {s : ChangeSpec} {W W' : World} {args : Array Value} {ds gs : List (DataW H)} {before : List MemPlace}
    (hW : DataW.Whole enc Try.prog f.params.toList s.vars false W args.toList ds gs before) (hv : s.vars = []) (hrt : f.resultTypes = #[4]) (hp : ∀ t ∈ f.params.toList, Try.prog.readableRec t = true ∧ t < Try.prog.types.size)
    (hs : s.fn H ds = { results := [.lit (.bool true)], args := ds }) (hb : Below W.heap.size W W') :
    s.post enc Try.prog f false true false false W args (.bool true) W' := by
  have hlt := hW.lt
  have hW0 := hW
  obtain ⟨p, q, hA, hV, rfl, _, _⟩ := hW0
  rw [hv] at hV
  obtain ⟨rfl, rfl⟩ := trodVars_none hV
  simp only [List.append_nil] at hW hlt
  refine ⟨ds, [], p, [], p, [], hW, ?_, ?_, ?_, hb.frame _, fun h => by cases h⟩
  · rw [List.append_nil, hs, hrt]
    exact trodAll_mk1 (shut_bool Try.underlying4 true)
  · rw [List.append_nil, hs]
    exact trods_stay laidOut hb _ _ _ _ hp hA hlt
  · rw [List.append_nil, hs, hv]
    exact rfl
end
theorem fine64 : Try.prog.readableRec 64 = true ∧ 64 < Try.prog.types.size := ⟨by kernel_rfl, of_decide_eq_true (by kernel_rfl)⟩
theorem cells64 : Try.prog.cellsOf 64 = 2 := by kernel_rfl
end Go.Proofs.Ytheddoinnakneaa
/- contracts: lines between pegs, points on them, lines that meet -/
namespace Go.Proofs.Ytheddoinnakneaa
open Go.ChangeShapes Go.WideShapes Go.ChangeAt Go.RowKit Go.Joins
set_option linter.unusedVariables false
set_option linter.unusedSimpArgs false
set_option maxRecDepth 4000
/-- the sign of a number -/
def sgn (n : Int) : Int := if 0 < n then 1 else if n < 0 then -1 else 0
/-- a point on the line between two -/
def onB (a1 a2 b1 b2 p1 p2 : Int) : Bool := decide (twI a1 a2 b1 b2 p1 p2 = 0) && decide ((a1 - p1) * (b1 - p1) ≤ 0) && decide ((a2 - p2) * (b2 - p2) ≤ 0)
theorem pgOn_any (a1 a2 b1 b2 p1 p2 : Int) (w : World) (ha : Sz a1 a2) (hb : Sz b1 b2) (hp : Sz p1 p2) :
    Calls Try.prog 121 #[.agg #[.int .i64 a1, .int .i64 a2], .agg #[.int .i64 b1, .int .i64 b2], .agg #[.int .i64 p1, .int .i64 p2]] w fun e w' => e = .returned (.bool (onB a1 a2 b1 b2 p1 p2)) ∧ Below w.heap.size w w' := by
  have q1 := mul_bd (x := a1 - p1) (y := b1 - p1) (m := 200000) (n := 200000) (by unfold Sz at *; omega) (by unfold Sz at *; omega) (by unfold Sz at *; omega) (by unfold Sz at *; omega)
  have q2 := mul_bd (x := a2 - p2) (y := b2 - p2) (m := 200000) (n := 200000) (by unfold Sz at *; omega) (by unfold Sz at *; omega) (by unfold Sz at *; omega) (by unfold Sz at *; omega)
  have ct := fun W => pgTurn_any a1 a2 b1 b2 p1 p2 W ha hb hp
  obtain ⟨x1, x2, x3, x4⟩ := ha
  obtain ⟨x5, x6, x7, x8⟩ := hb
  obtain ⟨x9, x10, x11, x12⟩ := hp
  obtain ⟨q3, q4⟩ := q1
  obtain ⟨q5, q6⟩ := q2
  by_cases h1 : twI a1 a2 b1 b2 p1 p2 = 0
  · by_cases h2 : (a1 - p1) * (b1 - p1) ≤ 0
    · by_cases h3 : (a2 - p2) * (b2 - p2) ≤ 0
      all_goals
        have CT := Lib.hid ct
        clear ct
        go_enter Try.func121, Try.ntmps121
        go_wp2_with fail
        refine (CT.out _).mono ?_; rintro e w1 ⟨rfl, hb1⟩
        obtain ⟨hc1, hf1⟩ := bcell hb1
        have z1_0 : w.heap.size < w1.heap.size := by (have := hb1.size; simp at this; omega)
        have z1_1 : w.heap.size + 1 < w1.heap.size := by (have := hb1.size; simp at this; omega)
        have z1_2 : w.heap.size + 2 < w1.heap.size := by (have := hb1.size; simp at this; omega)
        have B1 : Below w.heap.size w w1 := (Below.alloc (Below.alloc (Below.alloc (Below.refl _ _) (by simp <;> omega) _) (by simp <;> omega) _) (by simp <;> omega) _).trans (hb1.mono (by simp <;> omega))
        go_wp2_with fail
        go_ret
        exact ⟨ret_bool (by simp [onB, h1, h2, h3]), B1⟩
    · have CT := Lib.hid ct
      clear ct
      go_enter Try.func121, Try.ntmps121
      go_wp2_with fail
      refine (CT.out _).mono ?_; rintro e w1 ⟨rfl, hb1⟩
      obtain ⟨hc1, hf1⟩ := bcell hb1
      have z1_0 : w.heap.size < w1.heap.size := by (have := hb1.size; simp at this; omega)
      have z1_1 : w.heap.size + 1 < w1.heap.size := by (have := hb1.size; simp at this; omega)
      have z1_2 : w.heap.size + 2 < w1.heap.size := by (have := hb1.size; simp at this; omega)
      have B1 : Below w.heap.size w w1 := (Below.alloc (Below.alloc (Below.alloc (Below.refl _ _) (by simp <;> omega) _) (by simp <;> omega) _) (by simp <;> omega) _).trans (hb1.mono (by simp <;> omega))
      go_wp2_with fail
      go_ret
      exact ⟨ret_bool (by simp [onB, h1] <;> omega), B1⟩
  · have CT := Lib.hid ct
    clear ct
    go_enter Try.func121, Try.ntmps121
    go_wp2_with fail
    refine (CT.out _).mono ?_; rintro e w1 ⟨rfl, hb1⟩
    obtain ⟨hc1, hf1⟩ := bcell hb1
    have z1_0 : w.heap.size < w1.heap.size := by (have := hb1.size; simp at this; omega)
    have z1_1 : w.heap.size + 1 < w1.heap.size := by (have := hb1.size; simp at this; omega)
    have z1_2 : w.heap.size + 2 < w1.heap.size := by (have := hb1.size; simp at this; omega)
    have B1 : Below w.heap.size w w1 := (Below.alloc (Below.alloc (Below.alloc (Below.refl _ _) (by simp <;> omega) _) (by simp <;> omega) _) (by simp <;> omega) _).trans (hb1.mono (by simp <;> omega))
    go_wp2_with fail
    go_ret
    exact ⟨ret_bool (by simp [onB, h1]), B1⟩
end Go.Proofs.Ytheddoinnakneaa
/- contracts: points on lines and lines that meet, on both sides -/
namespace Go.Proofs.Ytheddoinnakneaa
open Go.ChangeShapes Go.WideShapes Go.ChangeAt Go.RowKit Go.Joins
set_option linter.unusedVariables false
set_option linter.unusedSimpArgs false
set_option maxRecDepth 4000
theorem between_iff (a b p : Int) : (a - p) * (b - p) ≤ 0 ↔ (min a b ≤ p ∧ p ≤ max a b) := by
  constructor
  · intro h
    rcases Int.lt_trichotomy a p with h1 | h1 | h1 <;> rcases Int.lt_trichotomy b p with h2 | h2 | h2
    all_goals first
      | omega
      | (have := Int.mul_pos_of_neg_of_neg (show a - p < 0 by omega) (show b - p < 0 by omega); omega)
      | (have := Int.mul_pos (show 0 < a - p by omega) (show 0 < b - p by omega); omega)
  · rintro ⟨h1, h2⟩
    rcases Int.le_total a b with h | h
    · have := Int.mul_nonneg (show 0 ≤ p - a by omega) (show 0 ≤ b - p by omega)
      have e : (p - a) * (b - p) = -((a - p) * (b - p)) := by rw [← Int.neg_mul]; congr 1; omega
      omega
    · have := Int.mul_nonneg (show 0 ≤ a - p by omega) (show 0 ≤ p - b by omega)
      have e : (a - p) * (p - b) = -((a - p) * (b - p)) := by rw [← Int.mul_neg]; congr 1; omega
      omega
theorem onB_eq (a1 a2 b1 b2 p1 p2 : Int) : onB a1 a2 b1 b2 p1 p2 = (decide (twI a1 a2 b1 b2 p1 p2 = 0) && decide (min a1 b1 ≤ p1 ∧ p1 ≤ max a1 b1) && decide (min a2 b2 ≤ p2 ∧ p2 ≤ max a2 b2)) := by
  unfold onB; simp only [between_iff]
theorem isBetween_any (p1 p2 a1 a2 b1 b2 : Int) (w : World) (hp : Sz p1 p2) (ha : Sz a1 a2) (hb : Sz b1 b2) :
    Calls Try.prog 141 #[.agg #[.int .i64 p1, .int .i64 p2], .agg #[.int .i64 a1, .int .i64 a2], .agg #[.int .i64 b1, .int .i64 b2]] w fun e w' => e = .returned (.bool (onB a1 a2 b1 b2 p1 p2)) ∧ Below w.heap.size w w' := by
  have CT := Lib.hid (fun W => twiceThree_any a1 a2 b1 b2 p1 p2 W ha hb hp)
  by_cases h1 : twI a1 a2 b1 b2 p1 p2 = 0
  · go_enter Try.func141, Try.ntmps141
    go_wp2_with fail
    refine (CT.out _).mono ?_; rintro e w1 ⟨rfl, hb1⟩
    obtain ⟨hc1, hf1⟩ := bcell hb1
    have z1_0 : w.heap.size < w1.heap.size := by (have := hb1.size; simp at this; omega)
    have z1_1 : w.heap.size + 1 < w1.heap.size := by (have := hb1.size; simp at this; omega)
    have z1_2 : w.heap.size + 2 < w1.heap.size := by (have := hb1.size; simp at this; omega)
    have B1 : Below w.heap.size w w1 := (Below.alloc (Below.alloc (Below.alloc (Below.refl _ _) (by simp <;> omega) _) (by simp <;> omega) _) (by simp <;> omega) _).trans (hb1.mono (by simp <;> omega))
    go_wp2_with fail
    all_goals
      go_ret
      exact ⟨ret_bool (by rw [onB_eq, Bool.eq_iff_iff]; simp [h1] <;> omega), B1⟩
  · go_enter Try.func141, Try.ntmps141
    go_wp2_with fail
    refine (CT.out _).mono ?_; rintro e w1 ⟨rfl, hb1⟩
    obtain ⟨hc1, hf1⟩ := bcell hb1
    have z1_0 : w.heap.size < w1.heap.size := by (have := hb1.size; simp at this; omega)
    have z1_1 : w.heap.size + 1 < w1.heap.size := by (have := hb1.size; simp at this; omega)
    have z1_2 : w.heap.size + 2 < w1.heap.size := by (have := hb1.size; simp at this; omega)
    have B1 : Below w.heap.size w w1 := (Below.alloc (Below.alloc (Below.alloc (Below.refl _ _) (by simp <;> omega) _) (by simp <;> omega) _) (by simp <;> omega) _).trans (hb1.mono (by simp <;> omega))
    go_wp2_with fail
    go_ret
    exact ⟨ret_bool (by simp [onB, h1]), B1⟩
/-- two lines have a point in common -/
def meetB (a1 a2 b1 b2 c1 c2 d1 d2 : Int) : Bool :=
  onB a1 a2 b1 b2 c1 c2 || onB a1 a2 b1 b2 d1 d2 || onB c1 c2 d1 d2 a1 a2 || onB c1 c2 d1 d2 b1 b2 ||
    decide (twI a1 a2 b1 b2 c1 c2 * twI a1 a2 b1 b2 d1 d2 < 0 ∧ twI c1 c2 d1 d2 a1 a2 * twI c1 c2 d1 d2 b1 b2 < 0)
theorem sgn_mul (m n : Int) : sgn m * sgn n < 0 ↔ m * n < 0 := by
  unfold sgn
  rcases Int.lt_trichotomy m 0 with h1 | h1 | h1 <;> rcases Int.lt_trichotomy n 0 with h2 | h2 | h2
  · have := Int.mul_pos_of_neg_of_neg h1 h2
    rw [if_neg (by omega), if_pos h1, if_neg (by omega), if_pos h2]; omega
  · subst h2; simp
  · have := Int.mul_neg_of_neg_of_pos h1 h2
    rw [if_neg (by omega), if_pos h1, if_pos h2]; omega
  · subst h1; simp
  · subst h1; simp
  · subst h1; simp
  · have := Int.mul_neg_of_pos_of_neg h1 h2
    rw [if_pos h1, if_neg (by omega), if_pos h2]; omega
  · subst h2; simp
  · have := Int.mul_pos h1 h2
    rw [if_pos h1, if_pos h2]; omega
theorem sgn_01 (m : Int) : sgn m = -1 ∨ sgn m = 0 ∨ sgn m = 1 := by unfold sgn; split; omega; split <;> omega
theorem twI_bd {a1 a2 b1 b2 c1 c2 : Int} (ha : Sz a1 a2) (hb : Sz b1 b2) (hc : Sz c1 c2) : -80000000000 ≤ twI a1 a2 b1 b2 c1 c2 ∧ twI a1 a2 b1 b2 c1 c2 ≤ 80000000000 := by
  unfold Sz at *
  have h1 := prod_bd (a := b1) (b := a1) (c := c2) (d := a2) (by omega) (by omega) (by omega) (by omega)
  have h2 := prod_bd (a := b2) (b := a2) (c := c1) (d := a1) (by omega) (by omega) (by omega) (by omega)
  unfold twI; omega
end Go.Proofs.Ytheddoinnakneaa
/- A statement that leaves its order open, all of whose operations come to one value in every world that meets S and lead to such a world again: one walk through it, in the order of the text, serves for every order. -/
namespace Go.Proofs.Ytheddoinnakneaa
open Go.ChangeShapes Go.WideShapes Go.ChangeAt Go.RowKit Go.Joins
set_option linter.unusedVariables false
set_option linter.unusedSimpArgs false
set_option maxRecDepth 4000
section
variable {P : Program} {ops : Array Oper} {Q : Exit → Act → World → Prop} {md : Region.Mode} {S : World → Prop}
/-- what an operation's run comes to: the value v, in a world that meets S -/
def Comes (P : Program) (S : World → Prop) (v : Value) : Result Next → Prop
  | .ok (.value u) w' => u = v ∧ S w'
  | .ok .skip w' => v = undef ∧ S w'
  | .ok (.enter f args) w' => Calls P f args w' fun e w'' => e = .returned v ∧ S w''
  | _ => False
theorem comes_value {u v : Value} {w' : World} : Comes P S v (.ok (.value u) w') = (u = v ∧ S w') := rfl
theorem comes_skip {v : Value} {w' : World} : Comes P S v (.ok .skip w') = (v = undef ∧ S w') := rfl
theorem comes_enter {v : Value} {f : FuncId} {args : Array Value} {w' : World} : Comes P S v (.ok (.enter f args) w') = Calls P f args w' (fun e w'' => e = .returned v ∧ S w'') := rfl
theorem comes_v {u : Value} {w' : World} (h : S w') : Comes P S u (.ok (.value u) w') := ⟨rfl, h⟩
theorem comes_e {v : Value} {f : FuncId} {args : Array Value} {w' : World} (h : Calls P f args w' fun e w'' => e = .returned v ∧ S w'') : Comes P S v (.ok (.enter f args) w') := h
theorem comes_c {v : Value} {f : FuncId} {args : Array Value} {w' : World} (h : Calls P f args w' fun e w'' => e = .returned v ∧ Below w'.heap.size w' w'') (hk : ∀ w'', Below w'.heap.size w' w'' → S w'') : Comes P S v (.ok (.enter f args) w') :=
  Calls.mono h fun e w'' he => ⟨he.1, hk w'' he.2⟩
theorem comes_q {v : Value} {f : FuncId} {args : Array Value} {w' : World} (h : Calls P f args w' fun e w'' => e = .returned v ∧ w' = w'') (hs : S w') : Comes P S v (.ok (.enter f args) w') :=
  Calls.mono h fun e w'' he => ⟨he.1, he.2 ▸ hs⟩
def Steady (P : Program) (ops : Array Oper) (S : World → Prop) (o : Oper) (v : Value) (a : Act) : Prop :=
  (Region.wanted o (yielded ops a.tmps) = true ∧ ∀ w, S w → Comes P S v ((execOp a.eval o).run P w)) ∨
  (Region.wanted o (yielded ops a.tmps) = false ∧ v = undef)
theorem steady_same {o : Oper} {v : Value} {a a' : Act} (hy : Steady P ops S o v a) (he : execOp a'.eval o = execOp a.eval o)
    (hw : Region.wanted o (yielded ops a'.tmps) = Region.wanted o (yielded ops a.tmps)) : Steady P ops S o v a' := by
  unfold Steady at *; rw [he, hw]; exact hy
theorem steady_op {i : Nat} {o : Oper} {v : Value} {a : Act} (hi : ops[i]? = some o) (hy : Steady P ops S o v a) {K : Act → World → Prop} {w : World} (hS : S w)
    (h : ∀ w', S w' → K (a.put o.dst v) w') : wpOp P ops Q i K a w := by
  unfold wpOp
  simp only [hi]
  rcases hy with ⟨hw, hv⟩ | ⟨hw, rfl⟩
  · simp only [hw, if_true]
    left
    have hc := hv w hS
    unfold Oper.wp
    generalize (execOp a.eval o).run P w = r at *
    cases r with
    | ok n w' =>
      cases n with
      | value u => obtain ⟨rfl, h'⟩ := hc; exact h _ h'
      | skip => obtain ⟨rfl, h'⟩ := hc; exact h _ h'
      | enter f args => exact Calls.mono hc fun e w'' he => by obtain ⟨rfl, hs⟩ := he; exact h _ hs
      | _ => exact hc.elim
    | halt x w' => exact hc.elim
  · simp only [hw, Bool.false_eq_true, if_false]
    exact h _ hS
/-- whichever comes up comes to one value: no world is spoken of till the end -/
def wpB (P : Program) (md : Region.Mode) (ops : Array Oper) (Q : Exit → Act → World → Prop) (S : World → Prop) : Nat → Array Bool → Act → Prop
  | 0, listed, a => Region.ready md ops listed = [] ∧ ∀ w, S w → Q .normal a w
  | fuel + 1, listed, a => (Region.ready md ops listed = [] → ∀ w, S w → Q .normal a w) ∧
    ∀ i ∈ Region.ready md ops listed, ∃ oi v, ops[i]? = some oi ∧ Steady P ops S oi v a ∧ wpB P md ops Q S fuel (listed.setIfInBounds i true) (a.put oi.dst v)
theorem wpAny_of_B : ∀ (fuel : Nat) (listed : Array Bool) (a : Act), wpB P md ops Q S fuel listed a → ∀ w, S w → wpAny P md ops Q fuel listed a w
  | 0, _, _, h, w, hS => ⟨h.1, h.2 w hS⟩
  | fuel + 1, _, _, h, w, hS => ⟨fun hr => h.1 hr w hS, fun i hi => by
      obtain ⟨oi, v, ho, hy, hn⟩ := h.2 i hi
      exact steady_op ho hy hS fun w' hS' => wpAny_of_B fuel _ _ hn w' hS'⟩
theorem wpB_first {i : Nat} {oi : Oper} {v : Value} (hi : ops[i]? = some oi) (hsel : ∀ (j : Nat) (o : Oper) cs b, ops[j]? = some o → o.op ≠ .select cs b) :
    ∀ (fuel : Nat) (listed : Array Bool) (a : Act),
      (∀ j oj, ops[j]? = some oj → j ≠ i → listed.getD j true = false → (∀ e ∈ oj.after, Region.binds md e = true → e.on ≠ i) → oi.apart ops oj = true) →
      i ∈ Region.ready md ops listed → Steady P ops S oi v a →
      wpB P md ops Q S fuel (listed.setIfInBounds i true) (a.put oi.dst v) → wpB P md ops Q S (fuel + 1) listed a := by
  intro fuel
  induction fuel with
  | zero =>
    intro listed a _ hr hy H
    refine ⟨fun h => (by rw [h] at hr; cases hr), fun j hj => ?_⟩
    by_cases hji : j = i
    · subst hji; exact ⟨oi, v, hi, hy, H⟩
    · have hm := ready_mono hj hji
      rw [H.1] at hm
      cases hm
  | succ fuel ih =>
    intro listed a hfree hr hy H
    refine ⟨fun h => (by rw [h] at hr; cases hr), fun j hj => ?_⟩
    by_cases hji : j = i
    · subst hji; exact ⟨oi, v, hi, hy, H⟩
    · obtain ⟨oj, u, hoj, hsj, Hj⟩ := H.2 j (ready_mono hj hji)
      obtain ⟨hjun, oj', hoj', hall⟩ := mem_ready.1 hj
      obtain rfl : oj' = oj := Option.some.inj (hoj'.symm.trans hoj)
      have hnot : ∀ e ∈ oj'.after, Region.binds md e = true → e.on ≠ i := fun e he hb heq => by
        have h1 := hall e he hb
        have h0 := (mem_ready.1 hr).1
        rw [heq] at h1
        have : listed.getD i true = listed.getD i false := by
          rcases Nat.lt_or_ge i listed.size with h' | h'
          · simp [h']
          · simp [Array.getElem?_eq_none h'] at h1
        rw [this, h1] at h0
        cases h0
      obtain ⟨h1, h2, h3⟩ := Oper.apart_spec (hfree j oj' hoj hji hjun hnot)
      have k1 : Steady P ops S oj' u a := steady_same hsj (execOp_put oj' (fun cs b => hsel j oj' cs b hoj) a oi.dst v h1).symm (wanted_put oj' a oi.dst v h1).symm
      have k2 : Steady P ops S oi v (a.put oj'.dst u) := steady_same hy (execOp_put oi (fun cs b => hsel i oi cs b hi) a oj'.dst u h3) (wanted_put oi a oj'.dst u h3)
      refine ⟨oj', u, hoj, k1, ih _ _ (fun k ok hk hki hun hno => ?_) (ready_mono hr (Ne.symm hji)) k2 ?_⟩
      · refine hfree k ok hk hki ?_ hno
        by_cases hjk : j = k
        · subst hjk; exact hjun
        · rw [getD_set_ne true hjk] at hun; exact hun
      · rw [Array.setIfInBounds_comm _ _ hji, ← Act.put_comm a v u h2]
        exact Hj
theorem wpB_take {i : Nat} {oi : Oper} {v : Value} {fuel : Nat} {listed : Array Bool} {a : Act} (hi : ops[i]? = some oi) (hs : Region.noSelect ops = true)
    (hf : Region.free md ops listed i = true) (hr : (Region.ready md ops listed).contains i = true) (hy : Steady P ops S oi v a)
    (h : wpB P md ops Q S fuel (listed.setIfInBounds i true) (a.put oi.dst v)) : wpB P md ops Q S (fuel + 1) listed a :=
  wpB_first hi (Region.noSelect_spec hs) fuel listed a (Region.free_spec hi hf) (by simpa using hr) hy h
theorem op_of_drop {i : Nat} {oi : Oper} {rest : List Oper} (h : ops.toList.drop i = oi :: rest) : ops[i]? = some oi := by
  have h0 : (ops.toList.drop i)[0]? = some oi := by rw [h]; rfl
  simpa [List.getElem?_drop] using h0
/-- number i, as it stands in the text -/
theorem wpB_text (i : Nat) {oi : Oper} {rest : List Oper} {v : Value} {fuel : Nat} {listed : Array Bool} {a : Act} (hi : ops.toList.drop i = oi :: rest) (hs : Region.noSelect ops = true)
    (hf : Region.free md ops listed i = true) (hr : (Region.ready md ops listed).contains i = true) (hw : Region.wanted oi (yielded ops a.tmps) = true)
    (hy : ∀ w, S w → Comes P S v ((execOp a.eval oi).run P w))
    (h : wpB P md ops Q S fuel (listed.setIfInBounds i true) (a.put oi.dst v)) : wpB P md ops Q S (fuel + 1) listed a :=
  wpB_take (op_of_drop hi) hs hf hr (Or.inl ⟨hw, hy⟩) h
/-- number i, which is not asked for -/
theorem wpB_skip (i : Nat) {oi : Oper} {rest : List Oper} {fuel : Nat} {listed : Array Bool} {a : Act} (hi : ops.toList.drop i = oi :: rest) (hs : Region.noSelect ops = true)
    (hf : Region.free md ops listed i = true) (hr : (Region.ready md ops listed).contains i = true) (hw : Region.wanted oi (yielded ops a.tmps) = false)
    (h : wpB P md ops Q S fuel (listed.setIfInBounds i true) (a.put oi.dst undef)) : wpB P md ops Q S (fuel + 1) listed a :=
  wpB_take (op_of_drop hi) hs hf hr (Or.inr ⟨hw, rfl⟩) h
theorem wpB_done {listed : Array Bool} {a : Act} (hr : Region.ready md ops listed = []) (h : ∀ w, S w → Q .normal a w) : ∀ fuel, wpB P md ops Q S fuel listed a
  | 0 => ⟨hr, h⟩
  | _ + 1 => ⟨fun _ => h, by rw [hr]; simp⟩
theorem wp_region_B {id : Nat} {a : Act} {w : World} (S : World → Prop) (hm : P.follows .mixedOrders = true) (hS : S w.drew)
    (h : wpB P .any ops Q S ops.size (Array.replicate ops.size false) a) : (Code.region id ops true).wp P Q a w :=
  wp_region_any hm (wpAny_of_B _ _ _ h _ hS)
end
end Go.Proofs.Ytheddoinnakneaa
/- contracts: lines that meet, on both sides -/
namespace Go.Proofs.Ytheddoinnakneaa
open Go.ChangeShapes Go.WideShapes Go.ChangeAt Go.RowKit Go.Joins
set_option linter.unusedVariables false
set_option linter.unusedSimpArgs false
set_option maxRecDepth 4000
theorem sgn_pr (m n : Int) : -1 ≤ sgn m * sgn n ∧ sgn m * sgn n ≤ 1 := by
  have h1 := sgn_01 m
  have h2 := sgn_01 n
  exact mul_bd (m := 1) (n := 1) (by omega) (by omega) (by omega) (by omega)
theorem held4 {w W W' : World} {a1 a2 b1 b2 c1 c2 d1 d2 : Int} (h : Below w.heap.size w W ∧ w.heap.size + 3 < W.heap.size ∧ W.cell? ⟨w.heap.size, 0, none⟩ = some (.int .i64 a1) ∧ W.cell? ⟨w.heap.size, 1, none⟩ = some (.int .i64 a2) ∧ W.cell? ⟨w.heap.size + 1, 0, none⟩ = some (.int .i64 b1) ∧ W.cell? ⟨w.heap.size + 1, 1, none⟩ = some (.int .i64 b2) ∧ W.cell? ⟨w.heap.size + 2, 0, none⟩ = some (.int .i64 c1) ∧ W.cell? ⟨w.heap.size + 2, 1, none⟩ = some (.int .i64 c2) ∧ W.cell? ⟨w.heap.size + 3, 0, none⟩ = some (.int .i64 d1) ∧ W.cell? ⟨w.heap.size + 3, 1, none⟩ = some (.int .i64 d2)) (hb : Below W.heap.size W W') : Below w.heap.size w W' ∧ w.heap.size + 3 < W'.heap.size ∧ W'.cell? ⟨w.heap.size, 0, none⟩ = some (.int .i64 a1) ∧ W'.cell? ⟨w.heap.size, 1, none⟩ = some (.int .i64 a2) ∧ W'.cell? ⟨w.heap.size + 1, 0, none⟩ = some (.int .i64 b1) ∧ W'.cell? ⟨w.heap.size + 1, 1, none⟩ = some (.int .i64 b2) ∧ W'.cell? ⟨w.heap.size + 2, 0, none⟩ = some (.int .i64 c1) ∧ W'.cell? ⟨w.heap.size + 2, 1, none⟩ = some (.int .i64 c2) ∧ W'.cell? ⟨w.heap.size + 3, 0, none⟩ = some (.int .i64 d1) ∧ W'.cell? ⟨w.heap.size + 3, 1, none⟩ = some (.int .i64 d2) := by
  obtain ⟨h1, h2, h3, h4, h5, h6, h7, h8, h9, h10⟩ := h
  have hc := (bcell hb).1
  have hz := hb.size
  have hz1 := h1.size
  exact ⟨h1.trans (hb.mono hz1), by omega, by rw [hc _ _ (by omega), h3], by rw [hc _ _ (by omega), h4], by rw [hc _ _ (by omega), h5], by rw [hc _ _ (by omega), h6], by rw [hc _ _ (by omega), h7], by rw [hc _ _ (by omega), h8], by rw [hc _ _ (by omega), h9], by rw [hc _ _ (by omega), h10]⟩
end Go.Proofs.Ytheddoinnakneaa
/- contracts: lines that meet, the program's side -/
namespace Go.Proofs.Ytheddoinnakneaa
open Go.ChangeShapes Go.WideShapes Go.ChangeAt Go.RowKit Go.Joins
set_option linter.unusedVariables false
set_option linter.unusedSimpArgs false
set_option maxRecDepth 4000
theorem sz_of {x y : Int} (h : isPegB x y = true) : Sz x y := by unfold isPegB at h; simp at h; unfold Sz; omega
theorem tw_bd40 {a1 a2 b1 b2 c1 c2 : Int} (ha : isPegB a1 a2 = true) (hb : isPegB b1 b2 = true) (hc : isPegB c1 c2 = true) : -12800 ≤ twI a1 a2 b1 b2 c1 c2 ∧ twI a1 a2 b1 b2 c1 c2 ≤ 12800 := by
  unfold isPegB at *
  simp at ha hb hc
  have h1 := mul_bd (x := b1 - a1) (y := c2 - a2) (m := 80) (n := 80) (by omega) (by omega) (by omega) (by omega)
  have h2 := mul_bd (x := b2 - a2) (y := c1 - a1) (m := 80) (n := 80) (by omega) (by omega) (by omega) (by omega)
  unfold twI; omega
end Go.Proofs.Ytheddoinnakneaa
/- worlds in which the boxes of a call's points stand -/
namespace Go.Proofs.Ytheddoinnakneaa
open Go.ChangeShapes Go.WideShapes Go.ChangeAt Go.RowKit Go.Joins
set_option linter.unusedVariables false
set_option linter.unusedSimpArgs false
set_option maxRecDepth 4000
theorem held1 {w W W' : World} {a1 a2 : Int} (h : Below w.heap.size w W ∧ w.heap.size + 0 < W.heap.size ∧ W.cell? ⟨w.heap.size, 0, none⟩ = some (.int .i64 a1) ∧ W.cell? ⟨w.heap.size, 1, none⟩ = some (.int .i64 a2)) (hb : Below W.heap.size W W') : Below w.heap.size w W' ∧ w.heap.size + 0 < W'.heap.size ∧ W'.cell? ⟨w.heap.size, 0, none⟩ = some (.int .i64 a1) ∧ W'.cell? ⟨w.heap.size, 1, none⟩ = some (.int .i64 a2) := by
  obtain ⟨h1, h2, h3, h4⟩ := h
  have hc := (bcell hb).1
  have hz := hb.size
  have hz1 := h1.size
  exact ⟨h1.trans (hb.mono hz1), by omega, by rw [hc _ _ (by omega), h3], by rw [hc _ _ (by omega), h4]⟩
theorem held2 {w W W' : World} {a1 a2 b1 b2 : Int} (h : Below w.heap.size w W ∧ w.heap.size + 1 < W.heap.size ∧ W.cell? ⟨w.heap.size, 0, none⟩ = some (.int .i64 a1) ∧ W.cell? ⟨w.heap.size, 1, none⟩ = some (.int .i64 a2) ∧ W.cell? ⟨w.heap.size + 1, 0, none⟩ = some (.int .i64 b1) ∧ W.cell? ⟨w.heap.size + 1, 1, none⟩ = some (.int .i64 b2)) (hb : Below W.heap.size W W') : Below w.heap.size w W' ∧ w.heap.size + 1 < W'.heap.size ∧ W'.cell? ⟨w.heap.size, 0, none⟩ = some (.int .i64 a1) ∧ W'.cell? ⟨w.heap.size, 1, none⟩ = some (.int .i64 a2) ∧ W'.cell? ⟨w.heap.size + 1, 0, none⟩ = some (.int .i64 b1) ∧ W'.cell? ⟨w.heap.size + 1, 1, none⟩ = some (.int .i64 b2) := by
  obtain ⟨h1, h2, h3, h4, h5, h6⟩ := h
  have hc := (bcell hb).1
  have hz := hb.size
  have hz1 := h1.size
  exact ⟨h1.trans (hb.mono hz1), by omega, by rw [hc _ _ (by omega), h3], by rw [hc _ _ (by omega), h4], by rw [hc _ _ (by omega), h5], by rw [hc _ _ (by omega), h6]⟩
theorem held3 {w W W' : World} {a1 a2 b1 b2 c1 c2 : Int} (h : Below w.heap.size w W ∧ w.heap.size + 2 < W.heap.size ∧ W.cell? ⟨w.heap.size, 0, none⟩ = some (.int .i64 a1) ∧ W.cell? ⟨w.heap.size, 1, none⟩ = some (.int .i64 a2) ∧ W.cell? ⟨w.heap.size + 1, 0, none⟩ = some (.int .i64 b1) ∧ W.cell? ⟨w.heap.size + 1, 1, none⟩ = some (.int .i64 b2) ∧ W.cell? ⟨w.heap.size + 2, 0, none⟩ = some (.int .i64 c1) ∧ W.cell? ⟨w.heap.size + 2, 1, none⟩ = some (.int .i64 c2)) (hb : Below W.heap.size W W') : Below w.heap.size w W' ∧ w.heap.size + 2 < W'.heap.size ∧ W'.cell? ⟨w.heap.size, 0, none⟩ = some (.int .i64 a1) ∧ W'.cell? ⟨w.heap.size, 1, none⟩ = some (.int .i64 a2) ∧ W'.cell? ⟨w.heap.size + 1, 0, none⟩ = some (.int .i64 b1) ∧ W'.cell? ⟨w.heap.size + 1, 1, none⟩ = some (.int .i64 b2) ∧ W'.cell? ⟨w.heap.size + 2, 0, none⟩ = some (.int .i64 c1) ∧ W'.cell? ⟨w.heap.size + 2, 1, none⟩ = some (.int .i64 c2) := by
  obtain ⟨h1, h2, h3, h4, h5, h6, h7, h8⟩ := h
  have hc := (bcell hb).1
  have hz := hb.size
  have hz1 := h1.size
  exact ⟨h1.trans (hb.mono hz1), by omega, by rw [hc _ _ (by omega), h3], by rw [hc _ _ (by omega), h4], by rw [hc _ _ (by omega), h5], by rw [hc _ _ (by omega), h6], by rw [hc _ _ (by omega), h7], by rw [hc _ _ (by omega), h8]⟩
theorem box1 (w : World) (t : TypeId) (a1 a2 : Int) : Below w.heap.size w (w.alloc (.cells #[.int .i64 a1, .int .i64 a2] t)) ∧ w.heap.size + 0 < (w.alloc (.cells #[.int .i64 a1, .int .i64 a2] t)).heap.size ∧ (w.alloc (.cells #[.int .i64 a1, .int .i64 a2] t)).cell? ⟨w.heap.size, 0, none⟩ = some (.int .i64 a1) ∧ (w.alloc (.cells #[.int .i64 a1, .int .i64 a2] t)).cell? ⟨w.heap.size, 1, none⟩ = some (.int .i64 a2) :=
  ⟨Below.alloc (Below.refl _ _) (by simp <;> omega) _, by simp <;> omega, by go_simp, by go_simp⟩
theorem box2 (w : World) (t : TypeId) (a1 a2 b1 b2 : Int) : Below w.heap.size w ((w.alloc (.cells #[.int .i64 a1, .int .i64 a2] t)).alloc (.cells #[.int .i64 b1, .int .i64 b2] t)) ∧ w.heap.size + 1 < ((w.alloc (.cells #[.int .i64 a1, .int .i64 a2] t)).alloc (.cells #[.int .i64 b1, .int .i64 b2] t)).heap.size ∧ ((w.alloc (.cells #[.int .i64 a1, .int .i64 a2] t)).alloc (.cells #[.int .i64 b1, .int .i64 b2] t)).cell? ⟨w.heap.size, 0, none⟩ = some (.int .i64 a1) ∧ ((w.alloc (.cells #[.int .i64 a1, .int .i64 a2] t)).alloc (.cells #[.int .i64 b1, .int .i64 b2] t)).cell? ⟨w.heap.size, 1, none⟩ = some (.int .i64 a2) ∧ ((w.alloc (.cells #[.int .i64 a1, .int .i64 a2] t)).alloc (.cells #[.int .i64 b1, .int .i64 b2] t)).cell? ⟨w.heap.size + 1, 0, none⟩ = some (.int .i64 b1) ∧ ((w.alloc (.cells #[.int .i64 a1, .int .i64 a2] t)).alloc (.cells #[.int .i64 b1, .int .i64 b2] t)).cell? ⟨w.heap.size + 1, 1, none⟩ = some (.int .i64 b2) :=
  ⟨Below.alloc (Below.alloc (Below.refl _ _) (by simp <;> omega) _) (by simp <;> omega) _, by simp <;> omega, by go_simp, by go_simp, by go_simp, by go_simp⟩
theorem box3 (w : World) (t : TypeId) (a1 a2 b1 b2 c1 c2 : Int) : Below w.heap.size w (((w.alloc (.cells #[.int .i64 a1, .int .i64 a2] t)).alloc (.cells #[.int .i64 b1, .int .i64 b2] t)).alloc (.cells #[.int .i64 c1, .int .i64 c2] t)) ∧ w.heap.size + 2 < (((w.alloc (.cells #[.int .i64 a1, .int .i64 a2] t)).alloc (.cells #[.int .i64 b1, .int .i64 b2] t)).alloc (.cells #[.int .i64 c1, .int .i64 c2] t)).heap.size ∧ (((w.alloc (.cells #[.int .i64 a1, .int .i64 a2] t)).alloc (.cells #[.int .i64 b1, .int .i64 b2] t)).alloc (.cells #[.int .i64 c1, .int .i64 c2] t)).cell? ⟨w.heap.size, 0, none⟩ = some (.int .i64 a1) ∧ (((w.alloc (.cells #[.int .i64 a1, .int .i64 a2] t)).alloc (.cells #[.int .i64 b1, .int .i64 b2] t)).alloc (.cells #[.int .i64 c1, .int .i64 c2] t)).cell? ⟨w.heap.size, 1, none⟩ = some (.int .i64 a2) ∧ (((w.alloc (.cells #[.int .i64 a1, .int .i64 a2] t)).alloc (.cells #[.int .i64 b1, .int .i64 b2] t)).alloc (.cells #[.int .i64 c1, .int .i64 c2] t)).cell? ⟨w.heap.size + 1, 0, none⟩ = some (.int .i64 b1) ∧ (((w.alloc (.cells #[.int .i64 a1, .int .i64 a2] t)).alloc (.cells #[.int .i64 b1, .int .i64 b2] t)).alloc (.cells #[.int .i64 c1, .int .i64 c2] t)).cell? ⟨w.heap.size + 1, 1, none⟩ = some (.int .i64 b2) ∧ (((w.alloc (.cells #[.int .i64 a1, .int .i64 a2] t)).alloc (.cells #[.int .i64 b1, .int .i64 b2] t)).alloc (.cells #[.int .i64 c1, .int .i64 c2] t)).cell? ⟨w.heap.size + 2, 0, none⟩ = some (.int .i64 c1) ∧ (((w.alloc (.cells #[.int .i64 a1, .int .i64 a2] t)).alloc (.cells #[.int .i64 b1, .int .i64 b2] t)).alloc (.cells #[.int .i64 c1, .int .i64 c2] t)).cell? ⟨w.heap.size + 2, 1, none⟩ = some (.int .i64 c2) :=
  ⟨Below.alloc (Below.alloc (Below.alloc (Below.refl _ _) (by simp <;> omega) _) (by simp <;> omega) _) (by simp <;> omega) _, by simp <;> omega, by go_simp, by go_simp, by go_simp, by go_simp, by go_simp, by go_simp⟩
theorem box4 (w : World) (t : TypeId) (a1 a2 b1 b2 c1 c2 d1 d2 : Int) : Below w.heap.size w ((((w.alloc (.cells #[.int .i64 a1, .int .i64 a2] t)).alloc (.cells #[.int .i64 b1, .int .i64 b2] t)).alloc (.cells #[.int .i64 c1, .int .i64 c2] t)).alloc (.cells #[.int .i64 d1, .int .i64 d2] t)) ∧ w.heap.size + 3 < ((((w.alloc (.cells #[.int .i64 a1, .int .i64 a2] t)).alloc (.cells #[.int .i64 b1, .int .i64 b2] t)).alloc (.cells #[.int .i64 c1, .int .i64 c2] t)).alloc (.cells #[.int .i64 d1, .int .i64 d2] t)).heap.size ∧ ((((w.alloc (.cells #[.int .i64 a1, .int .i64 a2] t)).alloc (.cells #[.int .i64 b1, .int .i64 b2] t)).alloc (.cells #[.int .i64 c1, .int .i64 c2] t)).alloc (.cells #[.int .i64 d1, .int .i64 d2] t)).cell? ⟨w.heap.size, 0, none⟩ = some (.int .i64 a1) ∧ ((((w.alloc (.cells #[.int .i64 a1, .int .i64 a2] t)).alloc (.cells #[.int .i64 b1, .int .i64 b2] t)).alloc (.cells #[.int .i64 c1, .int .i64 c2] t)).alloc (.cells #[.int .i64 d1, .int .i64 d2] t)).cell? ⟨w.heap.size, 1, none⟩ = some (.int .i64 a2) ∧ ((((w.alloc (.cells #[.int .i64 a1, .int .i64 a2] t)).alloc (.cells #[.int .i64 b1, .int .i64 b2] t)).alloc (.cells #[.int .i64 c1, .int .i64 c2] t)).alloc (.cells #[.int .i64 d1, .int .i64 d2] t)).cell? ⟨w.heap.size + 1, 0, none⟩ = some (.int .i64 b1) ∧ ((((w.alloc (.cells #[.int .i64 a1, .int .i64 a2] t)).alloc (.cells #[.int .i64 b1, .int .i64 b2] t)).alloc (.cells #[.int .i64 c1, .int .i64 c2] t)).alloc (.cells #[.int .i64 d1, .int .i64 d2] t)).cell? ⟨w.heap.size + 1, 1, none⟩ = some (.int .i64 b2) ∧ ((((w.alloc (.cells #[.int .i64 a1, .int .i64 a2] t)).alloc (.cells #[.int .i64 b1, .int .i64 b2] t)).alloc (.cells #[.int .i64 c1, .int .i64 c2] t)).alloc (.cells #[.int .i64 d1, .int .i64 d2] t)).cell? ⟨w.heap.size + 2, 0, none⟩ = some (.int .i64 c1) ∧ ((((w.alloc (.cells #[.int .i64 a1, .int .i64 a2] t)).alloc (.cells #[.int .i64 b1, .int .i64 b2] t)).alloc (.cells #[.int .i64 c1, .int .i64 c2] t)).alloc (.cells #[.int .i64 d1, .int .i64 d2] t)).cell? ⟨w.heap.size + 2, 1, none⟩ = some (.int .i64 c2) ∧ ((((w.alloc (.cells #[.int .i64 a1, .int .i64 a2] t)).alloc (.cells #[.int .i64 b1, .int .i64 b2] t)).alloc (.cells #[.int .i64 c1, .int .i64 c2] t)).alloc (.cells #[.int .i64 d1, .int .i64 d2] t)).cell? ⟨w.heap.size + 3, 0, none⟩ = some (.int .i64 d1) ∧ ((((w.alloc (.cells #[.int .i64 a1, .int .i64 a2] t)).alloc (.cells #[.int .i64 b1, .int .i64 b2] t)).alloc (.cells #[.int .i64 c1, .int .i64 c2] t)).alloc (.cells #[.int .i64 d1, .int .i64 d2] t)).cell? ⟨w.heap.size + 3, 1, none⟩ = some (.int .i64 d2) :=
  ⟨Below.alloc (Below.alloc (Below.alloc (Below.alloc (Below.refl _ _) (by simp <;> omega) _) (by simp <;> omega) _) (by simp <;> omega) _) (by simp <;> omega) _, by simp <;> omega, by go_simp, by go_simp, by go_simp, by go_simp, by go_simp, by go_simp, by go_simp, by go_simp⟩
end Go.Proofs.Ytheddoinnakneaa
/- a divisor as a sum of both numbers: the steps -/
namespace Go.Proofs.Ytheddoinnakneaa
open Go.ChangeShapes Go.WideShapes Go.ChangeAt Go.RowKit Go.Joins
set_option linter.unusedVariables false
set_option linter.unusedSimpArgs false
set_option maxRecDepth 4000
def eu : Nat → Int → Int → Int → Int → Int → Int → Int × Int × Int
  | 0, m, _, u, v, _, _ => (m, u, v)
  | f + 1, m, n, u, v, s, t => if n = 0 then (m, u, v) else eu f n (m - m.tdiv n * n) s t (u - m.tdiv n * s) (v - m.tdiv n * t)
theorem eu_rest {m n : Int} : (m - m.tdiv n * n) = m.tmod n := by
  have := Int.tdiv_mul_add_tmod m n
  omega
theorem eu_less {m n : Int} (hn : n ≠ 0) : (m - m.tdiv n * n).natAbs < n.natAbs := by
  rw [eu_rest, Int.natAbs_tmod]
  exact Nat.mod_lt _ (by omega)
theorem eu_gcd {m n : Int} : Nat.gcd n.natAbs (m - m.tdiv n * n).natAbs = Nat.gcd m.natAbs n.natAbs := by
  rw [eu_rest, Int.natAbs_tmod]
  rw [Nat.gcd_comm n.natAbs, ← Nat.gcd_rec, Nat.gcd_comm]
theorem eu_bd {N : Nat} {m n u s : Int} (h : s.natAbs * m.natAbs + u.natAbs * n.natAbs ≤ N) :
    (u - m.tdiv n * s).natAbs * n.natAbs + s.natAbs * (m - m.tdiv n * n).natAbs ≤ N := by
  have h1 : (u - m.tdiv n * s).natAbs ≤ u.natAbs + m.natAbs / n.natAbs * s.natAbs := by
    have e : (m.tdiv n * s).natAbs = m.natAbs / n.natAbs * s.natAbs := by rw [Int.natAbs_mul, Int.natAbs_tdiv]; rfl
    rw [← e]
    generalize m.tdiv n * s = x
    omega
  have h2 : (m - m.tdiv n * n).natAbs = m.natAbs % n.natAbs := by rw [eu_rest, Int.natAbs_tmod]
  have h3 : (u - m.tdiv n * s).natAbs * n.natAbs ≤ (u.natAbs + m.natAbs / n.natAbs * s.natAbs) * n.natAbs := Nat.mul_le_mul_right _ h1
  have h4 : (u.natAbs + m.natAbs / n.natAbs * s.natAbs) * n.natAbs + s.natAbs * (m.natAbs % n.natAbs) = s.natAbs * m.natAbs + u.natAbs * n.natAbs := by
    have h5 := Nat.div_add_mod m.natAbs n.natAbs
    generalize m.natAbs / n.natAbs = k at *
    generalize m.natAbs % n.natAbs = r at *
    generalize m.natAbs = a at *
    generalize n.natAbs = b at *
    generalize u.natAbs = x at *
    generalize s.natAbs = y at *
    subst h5
    grind
  rw [h2]
  omega
theorem mul_pos_le {a b N : Nat} (h : a * b ≤ N) (hb : 0 < b) : a ≤ N := Nat.le_trans (Nat.le_mul_of_pos_right a hb) h
theorem abs_of {x : Int} {N : Nat} (h : x.natAbs ≤ N) : -(N : Int) ≤ x ∧ x ≤ (N : Int) := by omega
/-- how the numbers of a step stand -/
structure EuS (N : Nat) (G : Nat) (R : Int × Int × Int) (m n u v s t : Int) : Prop where
  bm : m.natAbs ≤ N
  bn : n.natAbs ≤ N
  bu : u.natAbs ≤ N
  bv : v.natAbs ≤ N
  bs : s.natAbs ≤ N
  bt : t.natAbs ≤ N
  pu : s.natAbs * m.natAbs + u.natAbs * n.natAbs ≤ N
  pv : t.natAbs * m.natAbs + v.natAbs * n.natAbs ≤ N
  gcd : Nat.gcd m.natAbs n.natAbs = G
  res : ∃ f, n.natAbs < f ∧ eu f m n u v s t = R
theorem eus_step {N G : Nat} {R : Int × Int × Int} {m n u v s t : Int} (h : EuS N G R m n u v s t) (hn : n ≠ 0) :
    EuS N G R n (m - m.tdiv n * n) s t (u - m.tdiv n * s) (v - m.tdiv n * t) := by
  have l1 := eu_less (m := m) hn
  have b1 := eu_bd h.pu
  have b2 := eu_bd h.pv
  have hp : 0 < n.natAbs := by omega
  have c1 : (u - m.tdiv n * s).natAbs ≤ N := mul_pos_le (Nat.le_trans (Nat.le_add_right _ _) b1) hp
  have c2 : (v - m.tdiv n * t).natAbs ≤ N := mul_pos_le (Nat.le_trans (Nat.le_add_right _ _) b2) hp
  refine ⟨h.bn, by have := h.bn; omega, h.bs, h.bt, c1, c2, b1, b2, by rw [eu_gcd]; exact h.gcd, ?_⟩
  obtain ⟨f, hf, hr⟩ := h.res
  cases f with
  | zero => omega
  | succ f =>
    refine ⟨f, by omega, ?_⟩
    rw [← hr]
    show _ = (if n = 0 then (m, u, v) else eu f n (m - m.tdiv n * n) s t (u - m.tdiv n * s) (v - m.tdiv n * t))
    rw [if_neg hn]
theorem eus_end {N G : Nat} {R : Int × Int × Int} {m n u v s t : Int} (h : EuS N G R m n u v s t) (hn : n = 0) : R = (m, u, v) ∧ m.natAbs = G := by
  subst hn
  obtain ⟨f, hf, hr⟩ := h.res
  refine ⟨?_, by have := h.gcd; simpa using this⟩
  cases f with
  | zero => omega
  | succ f =>
    rw [← hr]
    show (if (0 : Int) = 0 then (m, u, v) else _) = _
    rw [if_pos rfl]
theorem eus_start (N : Nat) {m n : Int} (h1 : m.natAbs ≤ N) (h2 : n.natAbs ≤ N) (hN : 1 ≤ N) : EuS N (Nat.gcd m.natAbs n.natAbs) (eu (n.natAbs + 1) m n 1 0 0 1) m n 1 0 0 1 :=
  ⟨h1, h2, by simpa using hN, by simp, by simp, by simpa using hN, by simpa using h2, by simpa using h1, rfl, n.natAbs + 1, by omega, rfl⟩
/-- the quotient and what is taken away are small -/
theorem eus_wrap {N G : Nat} {R : Int × Int × Int} {m n u v s t : Int} (h : EuS N G R m n u v s t) (hn : n ≠ 0) (hN : N ≤ 1000000) :
    (-1000000 ≤ m.tdiv n ∧ m.tdiv n ≤ 1000000) ∧ (-1000000000000 ≤ m.tdiv n * n ∧ m.tdiv n * n ≤ 1000000000000) ∧ (-1000000000000 ≤ m.tdiv n * s ∧ m.tdiv n * s ≤ 1000000000000) ∧ (-1000000000000 ≤ m.tdiv n * t ∧ m.tdiv n * t ≤ 1000000000000) := by
  have q : (m.tdiv n).natAbs ≤ N := by rw [Int.natAbs_tdiv]; exact Nat.le_trans (Nat.div_le_self _ _) h.bm
  have := h.bn
  have := h.bs
  have := h.bt
  have m1 := mul_bd (x := m.tdiv n) (y := n) (m := 1000000) (n := 1000000) (by omega) (by omega) (by omega) (by omega)
  have m2 := mul_bd (x := m.tdiv n) (y := s) (m := 1000000) (n := 1000000) (by omega) (by omega) (by omega) (by omega)
  have m3 := mul_bd (x := m.tdiv n) (y := t) (m := 1000000) (n := 1000000) (by omega) (by omega) (by omega) (by omega)
  omega
end Go.Proofs.Ytheddoinnakneaa
/- contracts: a divisor as a sum of both numbers, on both sides -/
namespace Go.Proofs.Ytheddoinnakneaa
open Go.ChangeShapes Go.WideShapes Go.ChangeAt Go.RowKit Go.Joins
set_option linter.unusedVariables false
set_option linter.unusedSimpArgs false
set_option maxRecDepth 4000
def euG (a b : Int) : Int := if (eu (b.natAbs + 1) a b 1 0 0 1).1 < 0 then -(eu (b.natAbs + 1) a b 1 0 0 1).1 else (eu (b.natAbs + 1) a b 1 0 0 1).1
def euU (a b : Int) : Int := if (eu (b.natAbs + 1) a b 1 0 0 1).1 < 0 then -(eu (b.natAbs + 1) a b 1 0 0 1).2.1 else (eu (b.natAbs + 1) a b 1 0 0 1).2.1
def euV (a b : Int) : Int := if (eu (b.natAbs + 1) a b 1 0 0 1).1 < 0 then -(eu (b.natAbs + 1) a b 1 0 0 1).2.2 else (eu (b.natAbs + 1) a b 1 0 0 1).2.2
set_option maxHeartbeats 2000000 in
theorem divisorOf_any (a b : Int) (w : World) (ha : -20000 ≤ a ∧ a ≤ 20000) (hb : -20000 ≤ b ∧ b ≤ 20000) :
    Calls Try.prog 103 #[.int .i64 a, .int .i64 b] w fun e w' => e = .returned (.tuple #[.int .i64 (euG a b), .int .i64 (euU a b), .int .i64 (euV a b)]) ∧ Below w.heap.size w w' := by
  have H0 := eus_start 20000 (m := a) (n := b) (by omega) (by omega) (by omega)
  obtain ⟨R, hR⟩ : ∃ R, R = eu (b.natAbs + 1) a b 1 0 0 1 := ⟨_, rfl⟩
  have EG : Hid (euG a b = if R.1 < 0 then -R.1 else R.1) := Lib.hid (by rw [hR]; rfl)
  have EU : Hid (euU a b = if R.1 < 0 then -R.2.1 else R.2.1) := Lib.hid (by rw [hR]; rfl)
  have EV : Hid (euV a b = if R.1 < 0 then -R.2.2 else R.2.2) := Lib.hid (by rw [hR]; rfl)
  rw [← hR] at H0
  have HS := Lib.hid H0
  clear H0 hR
  generalize Nat.gcd a.natAbs b.natAbs = G at *
  generalize euG a b = rg at *
  generalize euU a b = ru at *
  generalize euV a b = rv at *
  clear ha hb
  go_enter Try.func103, Try.ntmps103
  go_wp2_with fail
  go_loopw [0, 1, 7, 8, 9, 10] (fun sm sn su sv ss st wr => ∃ m n u v s t : Int, sm = .int .i64 m ∧ sn = .int .i64 n ∧ su = .int .i64 u ∧ sv = .int .i64 v ∧ ss = .int .i64 s ∧ st = .int .i64 t ∧ Hid (EuS 20000 G R m n u v s t) ∧ Below w.heap.size w wr) (fun _ n _ _ _ _ _ => (intOf n).natAbs)
  case atStart => exact ⟨a, b, 1, 0, 0, 1, rfl, rfl, rfl, rfl, rfl, rfl, HS, Below.refl _ _⟩
  case round =>
    clear HS
    obtain ⟨m, n, u, v, s, t, rfl, rfl, rfl, rfl, rfl, rfl, hS, hB⟩ := hrel
    rename World => wo
    by_cases hn : n = 0
    · obtain ⟨e1, e2⟩ := eus_end hS.out hn
      have e3 : -20000 ≤ m ∧ m ≤ 20000 := abs_of hS.out.bm
      have e4 : -20000 ≤ u ∧ u ≤ 20000 := abs_of hS.out.bu
      have e5 : -20000 ≤ v ∧ v ≤ 20000 := abs_of hS.out.bv
      subst hn
      have F1 := EG.out
      have F2 := EU.out
      have F3 := EV.out
      rw [e1] at F1 F2 F3
      have HF := Lib.hid (And.intro F1 (And.intro F2 F3))
      clear F1 F2 F3 e1 e2 hS EG EU EV
      by_cases hm : m < 0
      · have hF := HF.out
        rw [if_pos hm, if_pos hm, if_pos hm] at hF
        have HK := Lib.hid hF
        clear hF
        have n1 : IntKind.i64.wrap (-m) = -m := IntWalk.i64_in _ (by omega)
        have n2 : IntKind.i64.wrap (-u) = -u := IntWalk.i64_in _ (by omega)
        have n3 : IntKind.i64.wrap (-v) = -v := IntWalk.i64_in _ (by omega)
        go_wp2_with fail
        refine bodyPost_ret (v := .tuple #[.int .i64 (-m), .int .i64 (-u), .int .i64 (-v)]) (by simp [results, Try.results103, go_sem, n1, n2, n3]) rfl ⟨by rw [HK.out.1, HK.out.2.1, HK.out.2.2], hB⟩
      · have hF := HF.out
        rw [if_neg hm, if_neg hm, if_neg hm] at hF
        have HK := Lib.hid hF
        clear hF
        go_wp2_with fail
        refine bodyPost_ret (v := .tuple #[.int .i64 (m), .int .i64 (u), .int .i64 (v)]) (by simp [results, Try.results103, go_sem]) rfl ⟨by rw [HK.out.1, HK.out.2.1, HK.out.2.2], hB⟩
    · have S2 := Lib.hid (eus_step hS.out hn)
      obtain ⟨⟨q1, q2⟩, ⟨q3, q4⟩, ⟨q5, q6⟩, ⟨q7, q8⟩⟩ := eus_wrap hS.out hn (by omega)
      have b1 : -20000 ≤ m ∧ m ≤ 20000 := abs_of hS.out.bm
      have b2 : -20000 ≤ n ∧ n ≤ 20000 := abs_of hS.out.bn
      have b3 : -20000 ≤ u ∧ u ≤ 20000 := abs_of hS.out.bu
      have b4 : -20000 ≤ v ∧ v ≤ 20000 := abs_of hS.out.bv
      have hl := Lib.hid (eu_less (m := m) hn)
      have w1 : IntKind.i64.wrap (m.tdiv n) = m.tdiv n := IntWalk.i64_in _ (by omega)
      have w2 : IntKind.i64.wrap (m.tdiv n * n) = m.tdiv n * n := IntWalk.i64_in _ (by omega)
      have w3 : IntKind.i64.wrap (m - m.tdiv n * n) = m - m.tdiv n * n := IntWalk.i64_in _ (by omega)
      have w4 : IntKind.i64.wrap (m.tdiv n * s) = m.tdiv n * s := IntWalk.i64_in _ (by omega)
      have w5 : IntKind.i64.wrap (u - m.tdiv n * s) = u - m.tdiv n * s := IntWalk.i64_in _ (by omega)
      have w6 : IntKind.i64.wrap (m.tdiv n * t) = m.tdiv n * t := IntWalk.i64_in _ (by omega)
      have w7 : IntKind.i64.wrap (v - m.tdiv n * t) = v - m.tdiv n * t := IntWalk.i64_in _ (by omega)
      clear hS q1 q2 q3 q4 q5 q6 q7 q8 b1 b2 b3 b4
      go_wp2_with fail
      go_roundw
      case rel => exact ⟨n, m - m.tdiv n * n, s, t, u - m.tdiv n * s, v - m.tdiv n * t, rfl, rfl, rfl, rfl, rfl, rfl, S2, hB⟩
      case measure => simpa [intOf] using hl.out
set_option maxHeartbeats 2000000 in
theorem mvFull_any (a b : Int) (w : World) (ha : -20000 ≤ a ∧ a ≤ 20000) (hb : -20000 ≤ b ∧ b ≤ 20000) :
    Calls Try.prog 100 #[.int .i64 a, .int .i64 b] w fun e w' => e = .returned (.tuple #[.int .i64 (euU a b), .int .i64 (euV a b)]) ∧ Below w.heap.size w w' := by
  have H0 := eus_start 20000 (m := a) (n := b) (by omega) (by omega) (by omega)
  obtain ⟨R, hR⟩ : ∃ R, R = eu (b.natAbs + 1) a b 1 0 0 1 := ⟨_, rfl⟩
  have EG : Hid (euG a b = if R.1 < 0 then -R.1 else R.1) := Lib.hid (by rw [hR]; rfl)
  have EU : Hid (euU a b = if R.1 < 0 then -R.2.1 else R.2.1) := Lib.hid (by rw [hR]; rfl)
  have EV : Hid (euV a b = if R.1 < 0 then -R.2.2 else R.2.2) := Lib.hid (by rw [hR]; rfl)
  rw [← hR] at H0
  have HS := Lib.hid H0
  clear H0 hR
  generalize Nat.gcd a.natAbs b.natAbs = G at *
  generalize euG a b = rg at *
  generalize euU a b = ru at *
  generalize euV a b = rv at *
  clear ha hb
  go_enter Try.func100, Try.ntmps100
  go_wp2_with fail
  go_loopw [0, 1, 6, 7, 8, 9] (fun sm sn su sv ss st wr => ∃ m n u v s t : Int, sm = .int .i64 m ∧ sn = .int .i64 n ∧ su = .int .i64 u ∧ sv = .int .i64 v ∧ ss = .int .i64 s ∧ st = .int .i64 t ∧ Hid (EuS 20000 G R m n u v s t) ∧ Below w.heap.size w wr) (fun _ n _ _ _ _ _ => (intOf n).natAbs)
  case atStart => exact ⟨a, b, 1, 0, 0, 1, rfl, rfl, rfl, rfl, rfl, rfl, HS, Below.refl _ _⟩
  case round =>
    clear HS
    obtain ⟨m, n, u, v, s, t, rfl, rfl, rfl, rfl, rfl, rfl, hS, hB⟩ := hrel
    rename World => wo
    by_cases hn : n = 0
    · obtain ⟨e1, e2⟩ := eus_end hS.out hn
      have e3 : -20000 ≤ m ∧ m ≤ 20000 := abs_of hS.out.bm
      have e4 : -20000 ≤ u ∧ u ≤ 20000 := abs_of hS.out.bu
      have e5 : -20000 ≤ v ∧ v ≤ 20000 := abs_of hS.out.bv
      subst hn
      have F1 := EG.out
      have F2 := EU.out
      have F3 := EV.out
      rw [e1] at F1 F2 F3
      have HF := Lib.hid (And.intro F1 (And.intro F2 F3))
      clear F1 F2 F3 e1 e2 hS EG EU EV
      by_cases hm : m < 0
      · have hF := HF.out
        rw [if_pos hm, if_pos hm, if_pos hm] at hF
        have HK := Lib.hid hF
        clear hF
        have n1 : IntKind.i64.wrap (-m) = -m := IntWalk.i64_in _ (by omega)
        have n2 : IntKind.i64.wrap (-u) = -u := IntWalk.i64_in _ (by omega)
        have n3 : IntKind.i64.wrap (-v) = -v := IntWalk.i64_in _ (by omega)
        go_wp2_with fail
        refine bodyPost_ret (v := .tuple #[.int .i64 (-u), .int .i64 (-v)]) (by simp [results, Try.results100, go_sem, n1, n2, n3]) rfl ⟨by rw [HK.out.2.1, HK.out.2.2], hB⟩
      · have hF := HF.out
        rw [if_neg hm, if_neg hm, if_neg hm] at hF
        have HK := Lib.hid hF
        clear hF
        go_wp2_with fail
        refine bodyPost_ret (v := .tuple #[.int .i64 (u), .int .i64 (v)]) (by simp [results, Try.results100, go_sem]) rfl ⟨by rw [HK.out.2.1, HK.out.2.2], hB⟩
    · have S2 := Lib.hid (eus_step hS.out hn)
      obtain ⟨⟨q1, q2⟩, ⟨q3, q4⟩, ⟨q5, q6⟩, ⟨q7, q8⟩⟩ := eus_wrap hS.out hn (by omega)
      have b1 : -20000 ≤ m ∧ m ≤ 20000 := abs_of hS.out.bm
      have b2 : -20000 ≤ n ∧ n ≤ 20000 := abs_of hS.out.bn
      have b3 : -20000 ≤ u ∧ u ≤ 20000 := abs_of hS.out.bu
      have b4 : -20000 ≤ v ∧ v ≤ 20000 := abs_of hS.out.bv
      have hl := Lib.hid (eu_less (m := m) hn)
      have w1 : IntKind.i64.wrap (m.tdiv n) = m.tdiv n := IntWalk.i64_in _ (by omega)
      have w2 : IntKind.i64.wrap (m.tdiv n * n) = m.tdiv n * n := IntWalk.i64_in _ (by omega)
      have w3 : IntKind.i64.wrap (m - m.tdiv n * n) = m - m.tdiv n * n := IntWalk.i64_in _ (by omega)
      have w4 : IntKind.i64.wrap (m.tdiv n * s) = m.tdiv n * s := IntWalk.i64_in _ (by omega)
      have w5 : IntKind.i64.wrap (u - m.tdiv n * s) = u - m.tdiv n * s := IntWalk.i64_in _ (by omega)
      have w6 : IntKind.i64.wrap (m.tdiv n * t) = m.tdiv n * t := IntWalk.i64_in _ (by omega)
      have w7 : IntKind.i64.wrap (v - m.tdiv n * t) = v - m.tdiv n * t := IntWalk.i64_in _ (by omega)
      clear hS q1 q2 q3 q4 q5 q6 q7 q8 b1 b2 b3 b4
      go_wp2_with fail
      go_roundw
      case rel => exact ⟨n, m - m.tdiv n * n, s, t, u - m.tdiv n * s, v - m.tdiv n * t, rfl, rfl, rfl, rfl, rfl, rfl, S2, hB⟩
      case measure => simpa [intOf] using hl.out
end Go.Proofs.Ytheddoinnakneaa
/- plain: the greatest common divisor as a sum of both numbers; the number that is nearest to 0 of those that a multiple parts -/
namespace Go.Proofs.Ytheddoinnakneaa
open Go.ChangeShapes Go.WideShapes Go.ChangeAt Go.RowKit Go.Joins
set_option linter.unusedVariables false
set_option linter.unusedSimpArgs false
set_option maxRecDepth 4000
theorem eu_bez (M N : Int) : ∀ (f : Nat) (m n u v s t : Int), u * M + v * N = m → s * M + t * N = n → (eu f m n u v s t).2.1 * M + (eu f m n u v s t).2.2 * N = (eu f m n u v s t).1
  | 0, m, n, u, v, s, t, h1, _ => h1
  | f + 1, m, n, u, v, s, t, h1, h2 => by
    rw [eu]
    split
    · exact h1
    · refine eu_bez M N f n _ s t _ _ h2 ?_
      rw [← h1, ← h2]
      generalize (u * M + v * N).tdiv (s * M + t * N) = k
      grind
theorem eu_gcd1 : ∀ (f : Nat) (m n u v s t : Int), n.natAbs < f → (eu f m n u v s t).1.natAbs = Nat.gcd m.natAbs n.natAbs
  | 0, _, _, _, _, _, _, h => absurd h (Nat.not_lt_zero _)
  | f + 1, m, n, u, v, s, t, h => by
    rw [eu]
    split
    · rename_i hn
      rw [hn]; simp
    · rename_i hn
      have hl := eu_less (m := m) hn
      rw [eu_gcd1 f n _ s t _ _ (by omega), eu_gcd]
theorem bez (a b : Int) : euU a b * a + euV a b * b = (Nat.gcd a.natAbs b.natAbs : Int) := by
  have h1 := eu_bez a b (b.natAbs + 1) a b 1 0 0 1 (by omega) (by omega)
  have h2 := eu_gcd1 (b.natAbs + 1) a b 1 0 0 1 (by omega)
  unfold euU euV
  split
  · rw [Int.neg_mul, Int.neg_mul]; omega
  · omega
theorem eus_fin {N G : Nat} {R : Int × Int × Int} : ∀ (k : Nat) {m n u v s t : Int}, n.natAbs ≤ k → EuS N G R m n u v s t → R.2.1.natAbs ≤ N ∧ R.2.2.natAbs ≤ N
  | k, m, n, u, v, s, t, hk, h => by
    by_cases hn : n = 0
    · have e := (eus_end h hn).1
      rw [e]
      exact ⟨h.bu, h.bv⟩
    · have hl := eu_less (m := m) hn
      match k, hk with
      | 0, hk => omega
      | k + 1, hk => exact eus_fin k (by omega) (eus_step h hn)
theorem eu_bnd {a b : Int} (ha : -20000 ≤ a ∧ a ≤ 20000) (hb : -20000 ≤ b ∧ b ≤ 20000) : (-20000 ≤ euU a b ∧ euU a b ≤ 20000) ∧ (-20000 ≤ euV a b ∧ euV a b ≤ 20000) := by
  have h := eus_fin b.natAbs (Nat.le_refl _) (eus_start 20000 (m := a) (n := b) (by omega) (by omega) (by omega))
  unfold euU euV
  split <;> omega
/-- of a less size, or as great and greater than 0, the other one being less -/
def nrP (a b : Int) : Prop := a.natAbs < b.natAbs ∨ (a.natAbs = b.natAbs ∧ b < a)
instance (a b : Int) : Decidable (nrP a b) := by unfold nrP; infer_instance
def btP (x y : Int × Int) : Prop := nrP x.1 y.1 ∨ (x.1 = y.1 ∧ nrP x.2 y.2)
instance (x y : Int × Int) : Decidable (btP x y) := by unfold btP; infer_instance
theorem bt_trans {x y z : Int × Int} (h1 : btP x y) (h2 : btP y z) : btP x z := by unfold btP nrP at *; omega
theorem bt_eq {x y : Int × Int} (h1 : ¬ btP x y) (h2 : ¬ btP y x) : x = y := by
  unfold btP nrP at *
  exact Prod.ext (by omega) (by omega)
/-- the best one of those with a multiple k = i - K of u, v -/
def flE (u v a b : Int) (K : Nat) (i : Nat) : Int × Int := (a + ((i : Int) - K) * u, b + ((i : Int) - K) * v)
def flB (u v a b : Int) (K : Nat) : Nat → Int × Int
  | 0 => (a, b)
  | i + 1 => if btP (flE u v a b K i) (flB u v a b K i) then flE u v a b K i else flB u v a b K i
theorem flB_min (u v a b : Int) (K : Nat) : ∀ i, (∀ j, j < i → ¬ btP (flE u v a b K j) (flB u v a b K i)) ∧ (flB u v a b K i = (a, b) ∨ ∃ j, j < i ∧ flB u v a b K i = flE u v a b K j)
  | 0 => ⟨fun j h => absurd h (Nat.not_lt_zero _), Or.inl rfl⟩
  | i + 1 => by
    obtain ⟨h1, h2⟩ := flB_min u v a b K i
    rw [flB]
    split
    · rename_i hb
      refine ⟨fun j hj hc => ?_, Or.inr ⟨i, by omega, rfl⟩⟩
      rcases Nat.lt_or_ge j i with g | g
      · exact h1 j g (bt_trans hc hb)
      · obtain rfl : j = i := by omega
        unfold btP nrP at hc; omega
    · rename_i hb
      refine ⟨fun j hj => ?_, ?_⟩
      · rcases Nat.lt_or_ge j i with g | g
        · exact h1 j g
        · obtain rfl : j = i := by omega
          exact hb
      · rcases h2 with h2 | ⟨j, h3, h4⟩
        · exact Or.inl h2
        · exact Or.inr ⟨j, by omega, h4⟩
/-- the best of all, if it is among those that are looked at -/
theorem flB_is {u v a b : Int} {K : Nat} {t : Int × Int} {k : Int} (hk : -(K : Int) ≤ k ∧ k ≤ K) (ht : t = (a + k * u, b + k * v)) (hmin : ∀ j : Int, ¬ btP (a + j * u, b + j * v) t) : flB u v a b K (2 * K + 1) = t := by
  obtain ⟨h1, h2⟩ := flB_min u v a b K (2 * K + 1)
  have e : flE u v a b K (k + K).toNat = t := by
    unfold flE
    rw [ht, show (((k + K).toNat : Nat) : Int) - K = k by omega]
  refine bt_eq ?_ (by rw [← e]; exact h1 _ (by omega))
  rcases h2 with h2 | ⟨j, _, h2⟩
  · rw [h2]
    have := hmin 0
    rw [Int.zero_mul, Int.zero_mul, Int.add_zero, Int.add_zero] at this
    exact this
  · rw [h2]; exact hmin _
/-- A and B of FlatMove, as the program finds them -/
def bsR (u v : Int) : Int := ((euV u v).tmod u + u).tmod u
def bsA (u v : Int) : Int := if u = 0 then 1 else if u < 2 * bsR u v then bsR u v - u else bsR u v
def bsB (u v : Int) : Int := if u = 0 then 0 else (bsA u v * v - 1).tdiv u
theorem bsR_is {u v : Int} (hu : 0 < u) : (0 ≤ bsR u v ∧ bsR u v < u) ∧ ∃ k, bsR u v = euV u v + k * u := by
  have h1 := Int.tdiv_mul_add_tmod (euV u v) u
  have h2 := Int.tdiv_mul_add_tmod ((euV u v).tmod u + u) u
  have h3 : 0 ≤ (euV u v).tmod u + u := by
    have := Int.lt_tmod_of_pos (euV u v) hu
    omega
  refine ⟨⟨Int.tmod_nonneg u h3, Int.tmod_lt_of_pos _ hu⟩, (1 - (euV u v).tdiv u - ((euV u v).tmod u + u).tdiv u), ?_⟩
  unfold bsR
  rw [Int.sub_mul, Int.sub_mul, Int.one_mul]
  omega
theorem bsA_is {u v : Int} (hu : 0 < u) : (-u < 2 * bsA u v ∧ 2 * bsA u v ≤ u) ∧ ∃ k, bsA u v = euV u v + k * u := by
  obtain ⟨⟨h1, h2⟩, k, h3⟩ := bsR_is (v := v) hu
  unfold bsA
  rw [if_neg (by omega)]
  split
  · exact ⟨⟨by omega, by omega⟩, k - 1, by rw [Int.sub_mul, Int.one_mul]; omega⟩
  · exact ⟨⟨by omega, by omega⟩, k, h3⟩
theorem bs_det {u v : Int} (hu : 0 < u) (hg : Nat.gcd u.natAbs v.natAbs = 1) : bsA u v * v - bsB u v * u = 1 := by
  obtain ⟨_, k, h3⟩ := bsA_is (v := v) hu
  have hb := bez u v
  rw [hg] at hb
  have e : bsA u v * v - 1 = (k * v - euU u v) * u := by
    rw [h3]
    have : euV u v * v = 1 - euU u v * u := by omega
    calc (euV u v + k * u) * v - 1 = euV u v * v + k * u * v - 1 := by grind
      _ = (k * v - euU u v) * u := by rw [this]; grind
  unfold bsB
  rw [if_neg (by omega), e, Int.mul_tdiv_cancel _ (by omega)]
  omega
theorem flat_is {u v : Int} (hu : 0 < u ∨ u = 0 ∧ v = 1) (hg : Nat.gcd u.natAbs v.natAbs = 1) : flB u v (euU v (-u)) (euV v (-u)) ((euU v (-u)).natAbs + (euV v (-u)).natAbs + 1) (2 * ((euU v (-u)).natAbs + (euV v (-u)).natAbs + 1) + 1) = (bsA u v, bsB u v) := by
  rcases hu with hu | ⟨rfl, rfl⟩
  · have hb := bez v (-u)
    have hg2 : Nat.gcd v.natAbs (-u).natAbs = 1 := by rw [Int.natAbs_neg, Nat.gcd_comm]; exact hg
    rw [hg2] at hb
    have hd := bs_det hu hg
    have hB := bez u v
    rw [hg] at hB
    obtain ⟨⟨h1, h2⟩, _⟩ := bsA_is (v := v) hu
    generalize euU v (-u) = a0 at *
    generalize euV v (-u) = b0 at *
    generalize bsA u v = A at *
    generalize bsB u v = B at *
    generalize euU u v = x at *
    generalize euV u v = e at *
    have e1 : (A - a0) * v = (B - b0) * u := by grind
    obtain ⟨k, hk⟩ : ∃ k, k = e * (B - b0) + x * (A - a0) := ⟨_, rfl⟩
    have e2 : A - a0 = k * u := by
      calc A - a0 = (A - a0) * (x * u + e * v) := by rw [hB]; simp
        _ = e * ((A - a0) * v) + x * (A - a0) * u := by grind
        _ = k * u := by rw [e1, hk]; grind
    have e3 : B - b0 = k * v := by
      have : u * (B - b0) = u * (k * v) := by
        calc u * (B - b0) = (A - a0) * v := by rw [e1]; grind
          _ = u * (k * v) := by rw [e2]; grind
      exact Int.eq_of_mul_eq_mul_left (by omega) this
    refine flB_is (k := k) ?_ (Prod.ext (by simp only; omega) (by simp only; omega)) (fun j hc => ?_)
    · have hn : (k * u).natAbs = k.natAbs * u.natAbs := Int.natAbs_mul _ _
      rcases Nat.lt_or_ge (a0.natAbs + 1) k.natAbs with g | g
      · exfalso
        have h5 : (a0.natAbs + 2) * u.natAbs ≤ k.natAbs * u.natAbs := Nat.mul_le_mul_right _ (by omega)
        rw [Nat.add_mul] at h5
        have h6 : a0.natAbs * 1 ≤ a0.natAbs * u.natAbs := Nat.mul_le_mul_left _ (by omega)
        omega
      · omega
    · have ej : a0 + j * u = A + (j - k) * u ∧ b0 + j * v = B + (j - k) * v := by
        rw [Int.sub_mul, Int.sub_mul]; omega
      rw [ej.1, ej.2] at hc
      rcases Int.lt_trichotomy (j - k) 0 with g | g | g
      · have h5 : (j - k) * u ≤ -1 * u := Int.mul_le_mul_of_nonneg_right (by omega) (by omega)
        unfold btP nrP at hc
        simp only at hc
        omega
      · rw [g, Int.zero_mul, Int.zero_mul] at hc
        unfold btP nrP at hc
        simp only at hc
        omega
      · have h5 : 1 * u ≤ (j - k) * u := Int.mul_le_mul_of_nonneg_right (by omega) (by omega)
        unfold btP nrP at hc
        simp only at hc
        omega
  · decide
end Go.Proofs.Ytheddoinnakneaa
/- lists of points in memory: how they read; a list of the laws' package made one of the program's -/
namespace Go.Proofs.Ytheddoinnakneaa
open Go.ChangeShapes Go.WideShapes Go.ChangeAt Go.RowKit Go.Joins
set_option linter.unusedVariables false
set_option linter.unusedSimpArgs false
set_option maxRecDepth 4000
/-- the slice's cells from address A on hold the points l; they lie below block B -/
def Rd (w : World) (B : Nat) (A : Option Addr) (l : List (Int × Int)) : Prop :=
  0 < l.length → ∃ b off, A = some ⟨b, off, none⟩ ∧ b < B ∧ ∀ i p, l[i]? = some p →
    w.cell? ⟨b, off + i * 2, none⟩ = some (.int .i64 p.1) ∧ w.cell? ⟨b, off + i * 2 + 1, none⟩ = some (.int .i64 p.2)
theorem rd_keep {w w' : World} {B : Nat} {A : Option Addr} {l : List (Int × Int)} (h : Rd w B A l) (hk : ∀ b o, b < B → w'.cell? ⟨b, o, none⟩ = w.cell? ⟨b, o, none⟩) : Rd w' B A l := by
  intro hl
  obtain ⟨b, off, e, hb, hc⟩ := h hl
  exact ⟨b, off, e, hb, fun i p hp => by rw [hk _ _ hb, hk _ _ hb]; exact hc i p hp⟩
theorem rd_below {w w' : World} {B B' : Nat} {A : Option Addr} {l : List (Int × Int)} (h : Rd w B A l) (hb : Below B' w w') (hB : B ≤ B') : Rd w' B A l :=
  rd_keep h fun b o hlt => hb.cell (p := ⟨b, o, none⟩) (by show b < B'; omega)
theorem rd_more {w : World} {B B' : Nat} {A : Option Addr} {l : List (Int × Int)} (h : Rd w B A l) (hB : B ≤ B') : Rd w B' A l := by
  intro hl
  obtain ⟨b, off, e, hb, hc⟩ := h hl
  exact ⟨b, off, e, by omega, hc⟩
theorem szPegS_any (A : Option Addr) (n c : Nat) (m : Int) (w : World) (hn : n ≤ 9223372036854775807) (h1 : 0 ≤ m) (h2 : m ≤ 1000000000) :
    Calls Try.prog 15 #[.slice A n c, .int .i64 m] w fun e w' => e = .returned (.int .i64 (if m - n < 0 then -1 else m - n)) ∧ w = w' := by
  by_cases h : m - n < 0
  · rw [if_pos h]
    go_enter Try.func15, Try.ntmps15
    go_wp2_with fail
    go_ret
    exact ⟨rfl, rfl⟩
  · rw [if_neg h]
    go_enter Try.func15, Try.ntmps15
    go_wp2_with fail
    go_ret
    exact ⟨rfl, rfl⟩
theorem peg_info : (Try.prog.info? 56).map (fun i => (i.zero, i.size, i.bytes)) = some (some (.agg #[.int .i64 0, .int .i64 0]), 2, 16) := by kernel_rfl
/-- a new block of points: number g, the first k of them set -/
def Set (w : World) (g n k : Nat) (l : List (Int × Int)) : Prop :=
  g < w.heap.size ∧ (∀ i, i < n → (∃ u, w.cell? ⟨g, i * 2, none⟩ = some u) ∧ (∃ u, w.cell? ⟨g, i * 2 + 1, none⟩ = some u) ∧ w.frozen? ⟨g, i * 2, none⟩ = false ∧ w.frozen? ⟨g, i * 2 + 1, none⟩ = false) ∧
    ∀ i p, i < k → l[i]? = some p → w.cell? ⟨g, i * 2, none⟩ = some (.int .i64 p.1) ∧ w.cell? ⟨g, i * 2 + 1, none⟩ = some (.int .i64 p.2)
theorem set_new (w : World) (t : TypeId) (n : Nat) (l : List (Int × Int)) : Set (w.alloc (.cells (madeCells #[.int .i64 0, .int .i64 0] (n * 2)) t)) w.heap.size n 0 l := by
  refine ⟨by simp, fun i hi => ?_, fun i p h => absurd h (Nat.not_lt_zero _)⟩
  have hs := size_madeCells #[.int .i64 0, .int .i64 0] (n * 2)
  have hb : ∀ j, j < n * 2 → ∃ u, (w.alloc (.cells (madeCells #[.int .i64 0, .int .i64 0] (n * 2)) t)).cell? ⟨w.heap.size, j, none⟩ = some u := fun j hj =>
    ⟨_, by rw [cell_of_row (w.alloc _) w.heap.size j _ t (0, 0) (heap_alloc_new w _)]; exact Array.getElem?_eq_getElem (by omega)⟩
  refine ⟨hb _ (by omega), hb _ (by omega), ?_, ?_⟩ <;> (rw [frozen?_alloc_cells]; simp [World.frozen?])
theorem set_below {w w' : World} {g n k : Nat} {l : List (Int × Int)} (h : Set w g n k l) (hb : Below w.heap.size w w') : Set w' g n k l := by
  obtain ⟨h1, h2, h3⟩ := h
  have hc := (bcell hb).1
  have hf := (bcell hb).2
  have hz := hb.size
  exact ⟨by omega, fun i hi => by rw [hc _ _ h1, hc _ _ h1, hf _ _ h1, hf _ _ h1]; exact h2 i hi, fun i p hi hp => by rw [hc _ _ h1, hc _ _ h1]; exact h3 i p hi hp⟩
theorem set_store {w : World} {g n k : Nat} {l : List (Int × Int)} (h : Set w g n k l) (hk : k < n) {p : Int × Int} (hp : l[k]? = some p) :
    Set ((w.setCell ⟨g, k * 2, none⟩ (.int .i64 p.1)).setCell ⟨g, k * 2 + 1, none⟩ (.int .i64 p.2)) g n (k + 1) l := by
  obtain ⟨h1, h2, h3⟩ := h
  have so : ∀ (W : World) (o o' : Nat) (u v : Value), (W.cell? ⟨g, o, none⟩ = some u) → ∃ u', (W.setCell ⟨g, o', none⟩ v).cell? ⟨g, o, none⟩ = some u' := fun W o o' u v h => cell?_setCell_some h
  have ne : ∀ (W : World) (o o' : Nat) (v : Value), o' ≠ o → (W.setCell ⟨g, o', none⟩ v).cell? ⟨g, o, none⟩ = W.cell? ⟨g, o, none⟩ := fun W o o' v h =>
    World.cell?_setCell_other W _ _ _ (fun e => h (by injection e))
  have sm : ∀ (W : World) (o : Nat) (u v : Value), W.cell? ⟨g, o, none⟩ = some u → (W.setCell ⟨g, o, none⟩ v).cell? ⟨g, o, none⟩ = some v := fun W o u v h => World.cell?_setCell_same W _ _ h
  refine ⟨by simpa [World.setCell] using h1, fun i hi => ?_, fun i q hi hq => ?_⟩
  · obtain ⟨⟨u1, e1⟩, ⟨u2, e2⟩, f1, f2⟩ := h2 i hi
    obtain ⟨u3, e3⟩ := so w _ (k * 2) u1 (.int .i64 p.1) e1
    obtain ⟨u4, e4⟩ := so w _ (k * 2) u2 (.int .i64 p.1) e2
    refine ⟨so _ _ _ u3 _ e3, so _ _ _ u4 _ e4, ?_, ?_⟩
    · rw [World.frozen?_setCell, World.frozen?_setCell]; exact f1
    · rw [World.frozen?_setCell, World.frozen?_setCell]; exact f2
  · by_cases hik : i = k
    · subst hik
      rw [hp] at hq
      injection hq with hq
      subst hq
      obtain ⟨⟨u1, e1⟩, ⟨u2, e2⟩, _, _⟩ := h2 i hk
      have e2' : (w.setCell ⟨g, i * 2, none⟩ (.int .i64 p.1)).cell? ⟨g, i * 2 + 1, none⟩ = some u2 := by rw [ne _ _ _ _ (by omega)]; exact e2
      exact ⟨by rw [ne _ _ _ _ (by omega)]; exact sm _ _ _ _ e1, sm _ _ _ _ e2'⟩
    · rw [ne _ _ _ _ (by omega), ne _ _ _ _ (by omega), ne _ _ _ _ (by omega), ne _ _ _ _ (by omega)]
      exact h3 i q (by omega) hq
theorem toPegS_any (A : Option Addr) (c : Nat) (l : List (Int × Int)) (w : World) (hn : l.length ≤ 1048576) (hR : Rd w w.heap.size A l) :
    Calls Try.prog 17 #[.slice A l.length c] w fun e w' => e = .returned (.slice (some ⟨w.heap.size, 0, none⟩) l.length l.length) ∧ Below w.heap.size w w' ∧ Set w' w.heap.size l.length l.length l := by
  obtain ⟨i0, hi0, hz0, hz1, hz2⟩ := info_parts peg_info
  have hmk := fun W => run_make (P := Try.prog) W 26 56 i0 _ Try.underlying26 hi0 hz0 .i64 .i64 (l.length : Int) (l.length : Int) (by omega) (by omega) (by rw [hz2]; omega) (by omega)
  have HR := Lib.hid hR
  clear hR
  generalize hN : l.length = n at *
  have HN := Lib.hid hN
  clear hN
  go_enter Try.func17, Try.ntmps17
  go_wp2_with fail
  have hS0 := set_new w 56 n l
  have hB0 : Below w.heap.size w (w.alloc (.cells (madeCells #[.int .i64 0, .int .i64 0] (n * 2)) 56)) := (Below.refl _ _).alloc (Nat.le_refl _) _
  go_loopw [4] (fun i wr => ∃ k : Nat, i = .int .i64 k ∧ k ≤ n ∧ Below w.heap.size w wr ∧ Set wr w.heap.size n k l) (fun i _ => n - (intOf i).toNat)
  case atStart => exact ⟨0, rfl, Nat.zero_le _, hB0, hS0⟩
  case round =>
    obtain ⟨k, rfl, hk, hB, hS⟩ := hrel
    by_cases hlt : k < n
    · have hget : ∃ p, l[k]? = some p := ⟨_, List.getElem?_eq_getElem (by have := HN.out; omega)⟩
      obtain ⟨p, hp⟩ := hget
      obtain ⟨b, off, hA, hb, hcell⟩ := HR.out (by have := HN.out; omega)
      subst hA
      obtain ⟨hc1, hc2⟩ := hcell k p hp
      have hq1 : wr.cell? ⟨b, off + k * 2, none⟩ = some (.int .i64 p.1) := (hB.cell (p := ⟨b, off + k * 2, none⟩) hb).trans hc1
      have hq2 : wr.cell? ⟨b, off + k * 2 + 1, none⟩ = some (.int .i64 p.2) := (hB.cell (p := ⟨b, off + k * 2 + 1, none⟩) hb).trans hc2
      have HC := Lib.hid hcell
      have HP := Lib.hid hp
      have HS := Lib.hid hS
      clear hcell hp hS hc1 hc2 hS0 hB0 hmk
      go_wp2_with fail
      refine (toPeg_any _ _ _).mono ?_; rintro e w1 ⟨rfl, hb1⟩
      have S1 := set_below HS.out hb1
      have B1 := hB.trans (hb1.mono hB.size)
      obtain ⟨g1, g2, g3⟩ := S1
      obtain ⟨⟨u1, d1⟩, ⟨u2, d2⟩, d3, d4⟩ := g2 k hlt
      have HS1 := Lib.hid (show Set w1 w.heap.size n k l from ⟨g1, g2, g3⟩)
      clear g2 g3 HS
      go_wp2_with fail
      have S2 := set_store HS1.out hlt HP.out
      have B2 := (B1.setCell (p := ⟨w.heap.size, k * 2, none⟩) (Nat.le_refl _) (.int .i64 p.1)).setCell (p := ⟨w.heap.size, k * 2 + 1, none⟩) (Nat.le_refl _) (.int .i64 p.2)
      go_roundw
      case rel => first | exact ⟨k + 1, by go_num, by omega, B2, S2⟩ | ((repeat apply Exists.intro); exact ⟨⟨k + 1, by go_num, by omega, B2, S2⟩, rfl⟩)
      case measure => simp [intOf]; omega
    · have hkn : k = n := by omega
      subst hkn
      go_wp2_with fail
      go_ret
      exact ⟨rfl, hB, hS⟩
end Go.Proofs.Ytheddoinnakneaa
/- lists of points in memory that the call itself made: they may be written; marks -/
namespace Go.Proofs.Ytheddoinnakneaa
open Go.ChangeShapes Go.WideShapes Go.ChangeAt Go.RowKit Go.Joins
set_option linter.unusedVariables false
set_option linter.unusedSimpArgs false
set_option maxRecDepth 4000
theorem rd_of_set {w : World} {g : Nat} {l : List (Int × Int)} (h : Set w g l.length l.length l) : Rd w w.heap.size (some ⟨g, 0, none⟩) l := by
  intro _
  refine ⟨g, 0, rfl, h.1, fun i p hp => ?_⟩
  rw [Nat.zero_add]
  exact h.2.2 i p (List.getElem?_eq_some_iff.1 hp).1 hp
/-- the slice's cells from address A on hold the points f 0, .., f (n - 1), may be written, and lie from block lo on, below block B -/
def Rw (w : World) (lo B : Nat) (A : Option Addr) (n : Nat) (f : Nat → Int × Int) : Prop :=
  0 < n → ∃ b off, A = some ⟨b, off, none⟩ ∧ lo ≤ b ∧ b < B ∧ ∀ i, i < n →
    (w.cell? ⟨b, off + i * 2, none⟩ = some (.int .i64 (f i).1) ∧ w.cell? ⟨b, off + i * 2 + 1, none⟩ = some (.int .i64 (f i).2)) ∧
    w.frozen? ⟨b, off + i * 2, none⟩ = false ∧ w.frozen? ⟨b, off + i * 2 + 1, none⟩ = false
/-- nothing turns but cells of blocks from lo on, below B -/
structure Only (lo B : Nat) (w w' : World) : Prop where
  os : w'.os = w.os
  tape : w'.tape = w.tape
  output : w'.output = w.output
  size : w'.heap.size = w.heap.size
  block : ∀ k, (k < lo ∨ B ≤ k) → w'.heap[k]? = w.heap[k]?
theorem Only.refl (lo B : Nat) (w : World) : Only lo B w w := ⟨rfl, rfl, rfl, rfl, fun _ _ => rfl⟩
theorem Only.below {lo B : Nat} {w w' : World} (h : Only lo B w w') : Below lo w w' := ⟨h.os, h.tape, h.output, Nat.le_of_eq h.size.symm, fun k hk => h.block k (.inl hk)⟩
theorem Only.set {lo B : Nat} {a w : World} (h : Only lo B a w) {p : Addr} (h1 : lo ≤ p.block) (h2 : p.block < B) (u : Value) : Only lo B a (w.setCell p u) :=
  ⟨h.os, h.tape, h.output, (by simp [World.setCell]; exact h.size), fun k hk => (Below.heap_setCell w p u k (by omega)).trans (h.block k hk)⟩
theorem Only.more {lo B lo' B' : Nat} {w w' : World} (h : Only lo B w w') (h1 : lo' ≤ lo) (h2 : B ≤ B') : Only lo' B' w w' := ⟨h.os, h.tape, h.output, h.size, fun k hk => h.block k (by omega)⟩
theorem rw_block {w w' : World} {lo B : Nat} {A : Option Addr} {n : Nat} {f : Nat → Int × Int} (h : Rw w lo B A n f) (hk : ∀ k, lo ≤ k → k < B → w'.heap[k]? = w.heap[k]?) : Rw w' lo B A n f := by
  intro hn
  obtain ⟨b, off, e, hb1, hb2, hc⟩ := h hn
  have c : ∀ o, w'.cell? ⟨b, o, none⟩ = w.cell? ⟨b, o, none⟩ := fun o => World.cell?_of_block (hk b hb1 hb2)
  have z : ∀ o, w'.frozen? ⟨b, o, none⟩ = w.frozen? ⟨b, o, none⟩ := fun o => World.frozen?_of_block (hk b hb1 hb2)
  exact ⟨b, off, e, hb1, hb2, fun i hi => by rw [c, c, z, z]; exact hc i hi⟩
theorem rw_below {w w' : World} {lo B B' : Nat} {A : Option Addr} {n : Nat} {f : Nat → Int × Int} (h : Rw w lo B A n f) (hb : Below B' w w') (hB : B ≤ B') : Rw w' lo B A n f :=
  rw_block h fun k _ h2 => hb.block k (by omega)
theorem rw_only {w w' : World} {lo B lo' B' : Nat} {A : Option Addr} {n : Nat} {f : Nat → Int × Int} (h : Rw w lo B A n f) (ho : Only lo' B' w w') (hd : B ≤ lo' ∨ B' ≤ lo) : Rw w' lo B A n f :=
  rw_block h fun k h1 h2 => ho.block k (by omega)
theorem rw_more {w : World} {lo B lo' B' : Nat} {A : Option Addr} {n : Nat} {f : Nat → Int × Int} (h : Rw w lo B A n f) (h1 : lo' ≤ lo) (h2 : B ≤ B') : Rw w lo' B' A n f := by
  intro hn
  obtain ⟨b, off, e, hb1, hb2, hc⟩ := h hn
  exact ⟨b, off, e, by omega, by omega, hc⟩
theorem rw_same {w : World} {lo B : Nat} {A : Option Addr} {n : Nat} {f g : Nat → Int × Int} (h : Rw w lo B A n f) (he : ∀ i, i < n → f i = g i) : Rw w lo B A n g := by
  intro hn
  obtain ⟨b, off, e, hb1, hb2, hc⟩ := h hn
  exact ⟨b, off, e, hb1, hb2, fun i hi => by rw [← he i hi]; exact hc i hi⟩
/-- the points of a list, as a row -/
def pt (l : List (Int × Int)) (i : Nat) : Int × Int := (l[i]?).getD (0, 0)
theorem pt_get {l : List (Int × Int)} {i : Nat} (h : i < l.length) : l[i]? = some (pt l i) := by
  unfold pt; rw [List.getElem?_eq_getElem h]; rfl
theorem rw_rd {w : World} {lo B : Nat} {A : Option Addr} {l : List (Int × Int)} (h : Rw w lo B A l.length (pt l)) : Rd w B A l := by
  intro hn
  obtain ⟨b, off, e, hb1, hb2, hc⟩ := h hn
  refine ⟨b, off, e, hb2, fun i p hp => ?_⟩
  have hi := (List.getElem?_eq_some_iff.1 hp).1
  rw [pt_get hi] at hp
  injection hp with hp
  rw [← hp]
  exact (hc i hi).1
theorem rw_of_set {w : World} {g : Nat} {l : List (Int × Int)} (h : Set w g l.length l.length l) : Rw w g (g + 1) (some ⟨g, 0, none⟩) l.length (pt l) := by
  intro _
  refine ⟨g, 0, rfl, Nat.le_refl _, by omega, fun i hi => ?_⟩
  rw [Nat.zero_add]
  exact ⟨h.2.2 i _ hi (pt_get hi), (h.2.1 i hi).2.2⟩
/-- two cells written -/
theorem rw_store {w : World} {lo B b off n k : Nat} {f : Nat → Int × Int} (h : Rw w lo B (some ⟨b, off, none⟩) n f) (hk : k < n) (x y : Int) :
    Rw ((w.setCell ⟨b, off + k * 2, none⟩ (.int .i64 x)).setCell ⟨b, off + k * 2 + 1, none⟩ (.int .i64 y)) lo B (some ⟨b, off, none⟩) n (fun j => if j = k then (x, y) else f j) := by
  intro hn
  obtain ⟨b', off', e, hb1, hb2, hc⟩ := h hn
  injection e with e
  injection e with e1 e2
  subst e1 e2
  have ne : ∀ (W : World) (o o' : Nat) (v : Value), o' ≠ o → (W.setCell ⟨b, o', none⟩ v).cell? ⟨b, o, none⟩ = W.cell? ⟨b, o, none⟩ := fun W o o' v h =>
    World.cell?_setCell_other W _ _ _ (fun e => h (by injection e))
  have sm : ∀ (W : World) (o : Nat) (u v : Value), W.cell? ⟨b, o, none⟩ = some u → (W.setCell ⟨b, o, none⟩ v).cell? ⟨b, o, none⟩ = some v := fun W o u v h => World.cell?_setCell_same W _ _ h
  refine ⟨b, off, rfl, hb1, hb2, fun i hi => ?_⟩
  obtain ⟨⟨c1, c2⟩, z1, z2⟩ := hc i hi
  refine ⟨?_, ?_, ?_⟩
  · by_cases hik : i = k
    · subst hik
      simp only [if_true]
      have c2' : (w.setCell ⟨b, off + i * 2, none⟩ (.int .i64 x)).cell? ⟨b, off + i * 2 + 1, none⟩ = some (.int .i64 (f i).2) := by rw [ne _ _ _ _ (by omega)]; exact c2
      exact ⟨by rw [ne _ _ _ _ (by omega)]; exact sm _ _ _ _ c1, sm _ _ _ _ c2'⟩
    · simp only [hik, if_false]
      rw [ne _ _ _ _ (by omega), ne _ _ _ _ (by omega), ne _ _ _ _ (by omega), ne _ _ _ _ (by omega)]
      exact ⟨c1, c2⟩
  · rw [World.frozen?_setCell, World.frozen?_setCell]; exact z1
  · rw [World.frozen?_setCell, World.frozen?_setCell]; exact z2
end Go.Proofs.Ytheddoinnakneaa
/- lists of numbers in memory that the call itself made -/
namespace Go.Proofs.Ytheddoinnakneaa
open Go.ChangeShapes Go.WideShapes Go.ChangeAt Go.RowKit Go.Joins
set_option linter.unusedVariables false
set_option linter.unusedSimpArgs false
set_option maxRecDepth 4000
/-- the slice's cells from address A on hold the numbers f 0, .., f (n - 1), may be written, and lie from block lo on, below block B -/
def RwI (w : World) (lo B : Nat) (A : Option Addr) (n : Nat) (f : Nat → Int) : Prop :=
  0 < n → ∃ b off, A = some ⟨b, off, none⟩ ∧ lo ≤ b ∧ b < B ∧ ∀ i, i < n → w.cell? ⟨b, off + i, none⟩ = some (.int .i64 (f i)) ∧ w.frozen? ⟨b, off + i, none⟩ = false
theorem rwi_block {w w' : World} {lo B : Nat} {A : Option Addr} {n : Nat} {f : Nat → Int} (h : RwI w lo B A n f) (hk : ∀ k, lo ≤ k → k < B → w'.heap[k]? = w.heap[k]?) : RwI w' lo B A n f := by
  intro hn
  obtain ⟨b, off, e, hb1, hb2, hc⟩ := h hn
  have c : ∀ o, w'.cell? ⟨b, o, none⟩ = w.cell? ⟨b, o, none⟩ := fun o => World.cell?_of_block (hk b hb1 hb2)
  have z : ∀ o, w'.frozen? ⟨b, o, none⟩ = w.frozen? ⟨b, o, none⟩ := fun o => World.frozen?_of_block (hk b hb1 hb2)
  exact ⟨b, off, e, hb1, hb2, fun i hi => by rw [c, z]; exact hc i hi⟩
theorem rwi_below {w w' : World} {lo B B' : Nat} {A : Option Addr} {n : Nat} {f : Nat → Int} (h : RwI w lo B A n f) (hb : Below B' w w') (hB : B ≤ B') : RwI w' lo B A n f :=
  rwi_block h fun k _ h2 => hb.block k (by omega)
theorem rwi_only {w w' : World} {lo B lo' B' : Nat} {A : Option Addr} {n : Nat} {f : Nat → Int} (h : RwI w lo B A n f) (ho : Only lo' B' w w') (hd : B ≤ lo' ∨ B' ≤ lo) : RwI w' lo B A n f :=
  rwi_block h fun k h1 h2 => ho.block k (by omega)
theorem rwi_more {w : World} {lo B lo' B' : Nat} {A : Option Addr} {n : Nat} {f : Nat → Int} (h : RwI w lo B A n f) (h1 : lo' ≤ lo) (h2 : B ≤ B') : RwI w lo' B' A n f := by
  intro hn
  obtain ⟨b, off, e, hb1, hb2, hc⟩ := h hn
  exact ⟨b, off, e, by omega, by omega, hc⟩
theorem rwi_same {w : World} {lo B : Nat} {A : Option Addr} {n : Nat} {f g : Nat → Int} (h : RwI w lo B A n f) (he : ∀ i, i < n → f i = g i) : RwI w lo B A n g := by
  intro hn
  obtain ⟨b, off, e, hb1, hb2, hc⟩ := h hn
  exact ⟨b, off, e, hb1, hb2, fun i hi => by rw [← he i hi]; exact hc i hi⟩
theorem rwi_store {w : World} {lo B b off n k : Nat} {f : Nat → Int} (h : RwI w lo B (some ⟨b, off, none⟩) n f) (hk : k < n) (x : Int) :
    RwI (w.setCell ⟨b, off + k, none⟩ (.int .i64 x)) lo B (some ⟨b, off, none⟩) n (fun j => if j = k then x else f j) := by
  intro hn
  obtain ⟨b', off', e, hb1, hb2, hc⟩ := h hn
  injection e with e
  injection e with e1 e2
  subst e1 e2
  refine ⟨b, off, rfl, hb1, hb2, fun i hi => ?_⟩
  obtain ⟨c1, z1⟩ := hc i hi
  refine ⟨?_, by rw [World.frozen?_setCell]; exact z1⟩
  by_cases hik : i = k
  · subst hik
    simp only [if_true]
    exact World.cell?_setCell_same w _ _ c1
  · simp only [hik, if_false]
    rw [World.cell?_setCell_other w _ _ _ (fun e => by injection e with e1 e2; omega)]
    exact c1
def mixI (k : Int) (i : Nat) (f : Nat → Int) (j : Nat) : Int := if j < i then k + (j : Int) else f j
theorem mixI_step (k : Int) (i : Nat) (f : Nat → Int) : (fun j => if j = i then k + (i : Int) else mixI k i f j) = mixI k (i + 1) f := by
  funext j
  unfold mixI
  by_cases h : j = i
  · subst h; rw [if_pos rfl, if_pos (by omega)]
  · rw [if_neg h]
    by_cases h2 : j < i
    · rw [if_pos h2, if_pos (by omega)]
    · rw [if_neg h2, if_neg (by omega)]
structure MarkedI (w w' : World) (lo B : Nat) (A : Option Addr) (n : Nat) (k : Int) (i : Nat) (f : Nat → Int) : Prop where
  only : Only lo B w w'
  row : RwI w' lo B A n (mixI k i f)
theorem markedI_step {w w' : World} {lo B b off n i : Nat} {k : Int} {f : Nat → Int} (h : MarkedI w w' lo B (some ⟨b, off, none⟩) n k i f) (hi : i < n) (hb : lo ≤ b) (hB : b < B) :
    MarkedI w (w'.setCell ⟨b, off + i, none⟩ (.int .i64 (k + (i : Int)))) lo B (some ⟨b, off, none⟩) n k (i + 1) f :=
  ⟨h.only.set hb hB _, by
    have := rwi_store h.row hi (k + (i : Int))
    rw [mixI_step k i f] at this
    exact this⟩
set_option maxHeartbeats 1000000 in
theorem markIntS_any (A : Option Addr) (c n : Nat) (k : Int) (lo B : Nat) (f : Nat → Int) (w : World) (hn : n ≤ 1048576) (hk1 : 1 ≤ k) (hk2 : k ≤ 1000000000) (hR : RwI w lo B A n f) :
    Calls Try.prog 39 #[.slice A n c, .int .i64 k] w fun e w' => e = .returned (.int .i64 (k + (n : Int))) ∧ Only lo B w w' ∧ RwI w' lo B A n (fun i => k + (i : Int)) := by
  have HM := Lib.hid (show MarkedI w w lo B A n k 0 f from ⟨Only.refl _ _ _, rwi_same hR fun i hi => by unfold mixI; rw [if_neg (by omega)]⟩)
  clear hR
  go_enter Try.func39, Try.ntmps39
  go_wp2_with fail
  go_loopg [1, 5] n (fun g u i wr => ∃ j : Nat, j ≤ n ∧ g = n - j ∧ i = .int .i64 j ∧ u = .int .i64 (k + (j : Int)) ∧ Hid (MarkedI w wr lo B A n k j f))
  case atStart => exact ⟨0, Nat.zero_le _, rfl, rfl, by simp, HM⟩
  case round =>
    obtain ⟨j, hj, hg, rfl, rfl, hM⟩ := hrel
    rename World => wo
    have HGK := Lib.hid hg
    clear hg HM
    by_cases hlt : j < n
    · obtain ⟨b, off, hA, hb1, hb2, hc⟩ := hM.out.row (by omega)
      subst hA
      obtain ⟨c1, z1⟩ := hc j hlt
      have M2 := Lib.hid (markedI_step hM.out hlt hb1 hb2)
      clear hc hM
      go_wp2_with fail
      go_roundg (n - (j + 1))
      case measure => have := HGK.out; omega
      case rel => exact ⟨j + 1, by omega, rfl, by go_num, by go_num, M2⟩
    · have hjn : n = j := by omega
      subst hjn
      go_wp2_with fail
      go_ret
      exact ⟨rfl, hM.out.only, rwi_same hM.out.row fun i hi => by unfold mixI; rw [if_pos hi]⟩
set_option maxHeartbeats 1000000 in
theorem heldIntS_any (A : Option Addr) (c n : Nat) (k : Int) (lo B : Nat) (w : World) (hn : n ≤ 1048576) (hk1 : 1 ≤ k) (hk2 : k ≤ 1000000000) (hR : RwI w lo B A n (fun i => k + (i : Int))) :
    Calls Try.prog 40 #[.slice A n c, .int .i64 k] w fun e w' => e = .returned (.int .i64 (k + (n : Int))) ∧ w = w' := by
  have HR := Lib.hid hR
  clear hR
  go_enter Try.func40, Try.ntmps40
  go_wp2_with fail
  go_loopg [1, 5] n (fun g u i wr => ∃ j : Nat, j ≤ n ∧ g = n - j ∧ i = .int .i64 j ∧ u = .int .i64 (k + (j : Int)) ∧ w = wr)
  case atStart => exact ⟨0, Nat.zero_le _, rfl, rfl, by simp, rfl⟩
  case round =>
    obtain ⟨j, hj, hg, rfl, rfl, rfl⟩ := hrel
    have HGK := Lib.hid hg
    clear hg
    by_cases hlt : j < n
    · obtain ⟨b, off, hA, hb1, hb2, hc⟩ := HR.out (by omega)
      subst hA
      obtain ⟨c1, z1⟩ := hc j hlt
      clear hc
      go_wp2_with fail
      go_roundg (n - (j + 1))
      case measure => have := HGK.out; omega
      case rel => exact ⟨j + 1, by omega, rfl, by go_num, by go_num, rfl⟩
    · have hjn : n = j := by omega
      subst hjn
      go_wp2_with fail
      go_ret
      exact ⟨rfl, rfl⟩
theorem bw_keep {w W W' : World} (h : Below w.heap.size w W) (hb : Below W.heap.size W W') : Below w.heap.size w W' := h.trans (hb.mono h.size)
set_option maxHeartbeats 1000000 in
theorem eqIntS_same (A A' : Option Addr) (c c' n : Nat) (lo B lo' B' : Nat) (f : Nat → Int) (w : World) (hn : n ≤ 1048576) (hR : RwI w lo B A n f) (hB : B ≤ w.heap.size) (hR' : RwI w lo' B' A' n f) (hB' : B' ≤ w.heap.size) :
    Calls Try.prog 38 #[.slice A n c, .slice A' n c'] w fun e w' => e = .returned (.bool true) ∧ Below w.heap.size w w' := by
  have HR := Lib.hid hR
  have HR' := Lib.hid hR'
  clear hR hR'
  go_enter Try.func38, Try.ntmps38
  go_wp2_with fail
  go_loopg [5] n (fun g i wr => ∃ j : Nat, j ≤ n ∧ g = n - j ∧ i = .int .i64 j ∧ Below w.heap.size w wr)
  case atStart => exact ⟨0, Nat.zero_le _, rfl, rfl, Below.refl _ _⟩
  case round =>
    obtain ⟨j, hj, hg, rfl, hBl⟩ := hrel
    rename World => wo
    have HGK := Lib.hid hg
    clear hg
    by_cases hlt : j < n
    · obtain ⟨b, off, hA, hb1, hb2, hc⟩ := HR.out (by omega)
      obtain ⟨b', off', hA', hb1', hb2', hc'⟩ := HR'.out (by omega)
      subst hA hA'
      obtain ⟨c1, z1⟩ := hc j hlt
      obtain ⟨c2, z2⟩ := hc' j hlt
      have e1 : wo.cell? ⟨b, off + j, none⟩ = some (.int .i64 (f j)) := (hBl.cell (p := ⟨b, off + j, none⟩) (by show b < w.heap.size; omega)).trans c1
      have e2 : wo.cell? ⟨b', off' + j, none⟩ = some (.int .i64 (f j)) := (hBl.cell (p := ⟨b', off' + j, none⟩) (by show b' < w.heap.size; omega)).trans c2
      have z3 : b < wo.heap.size := by have := hBl.size; omega
      have z4 : b' < wo.heap.size := by have := hBl.size; omega
      clear hc hc' c1 z1 c2 z2
      generalize f j = x at *
      go_wp2_with fail
      refine wp_region_B (fun W => Below wo.heap.size wo W) (by kernel_rfl) (Below.refl _ _).drew ?_
      first | refine wpB_skip 0 rfl (by kernel_rfl) (by kernel_rfl) (by kernel_rfl) (by rfl) ?_ | (refine wpB_text 0 (v := ?_) rfl (by kernel_rfl) (by kernel_rfl) (by kernel_rfl) (by rfl) (fun W hW => ?_) ?_; rotate_left; (have k1 := hW; obtain ⟨hc1, hf1⟩ := bcell k1; go_simp; refine comes_v ?_; exact k1))
      (try simp only [Act.put, List.setIfInBounds_toArray, List.set_cons_zero, List.set_cons_succ])
      first | refine wpB_skip 1 rfl (by kernel_rfl) (by kernel_rfl) (by kernel_rfl) (by rfl) ?_ | (refine wpB_text 1 (v := ?_) rfl (by kernel_rfl) (by kernel_rfl) (by kernel_rfl) (by rfl) (fun W hW => ?_) ?_; rotate_left; (have k1 := hW; obtain ⟨hc1, hf1⟩ := bcell k1; go_simp; refine comes_v ?_; exact k1))
      (try simp only [Act.put, List.setIfInBounds_toArray, List.set_cons_zero, List.set_cons_succ])
      first | refine wpB_skip 2 rfl (by kernel_rfl) (by kernel_rfl) (by kernel_rfl) (by rfl) ?_ | (refine wpB_text 2 (v := ?_) rfl (by kernel_rfl) (by kernel_rfl) (by kernel_rfl) (by rfl) (fun W hW => ?_) ?_; rotate_left; (have k1 := hW; obtain ⟨hc1, hf1⟩ := bcell k1; go_simp; refine comes_v ?_; exact k1))
      (try simp only [Act.put, List.setIfInBounds_toArray, List.set_cons_zero, List.set_cons_succ])
      first | refine wpB_skip 3 rfl (by kernel_rfl) (by kernel_rfl) (by kernel_rfl) (by rfl) ?_ | (refine wpB_text 3 (v := ?_) rfl (by kernel_rfl) (by kernel_rfl) (by kernel_rfl) (by rfl) (fun W hW => ?_) ?_; rotate_left; (have k1 := hW; obtain ⟨hc1, hf1⟩ := bcell k1; go_simp; refine comes_v ?_; exact k1))
      (try simp only [Act.put, List.setIfInBounds_toArray, List.set_cons_zero, List.set_cons_succ])
      first | refine wpB_skip 4 rfl (by kernel_rfl) (by kernel_rfl) (by kernel_rfl) (by rfl) ?_ | (refine wpB_text 4 (v := ?_) rfl (by kernel_rfl) (by kernel_rfl) (by kernel_rfl) (by rfl) (fun W hW => ?_) ?_; rotate_left; (have k1 := hW; obtain ⟨hc1, hf1⟩ := bcell k1; go_simp; refine comes_v ?_; exact k1))
      (try simp only [Act.put, List.setIfInBounds_toArray, List.set_cons_zero, List.set_cons_succ])
      first | refine wpB_skip 5 rfl (by kernel_rfl) (by kernel_rfl) (by kernel_rfl) (by rfl) ?_ | (refine wpB_text 5 (v := ?_) rfl (by kernel_rfl) (by kernel_rfl) (by kernel_rfl) (by rfl) (fun W hW => ?_) ?_; rotate_left; (have k1 := hW; obtain ⟨hc1, hf1⟩ := bcell k1; go_simp; refine comes_v ?_; exact k1))
      (try simp only [Act.put, List.setIfInBounds_toArray, List.set_cons_zero, List.set_cons_succ])
      first | refine wpB_skip 6 rfl (by kernel_rfl) (by kernel_rfl) (by kernel_rfl) (by rfl) ?_ | (refine wpB_text 6 (v := ?_) rfl (by kernel_rfl) (by kernel_rfl) (by kernel_rfl) (by rfl) (fun W hW => ?_) ?_; rotate_left; (have k1 := hW; obtain ⟨hc1, hf1⟩ := bcell k1; go_simp; refine comes_v ?_; exact k1))
      (try simp only [Act.put, List.setIfInBounds_toArray, List.set_cons_zero, List.set_cons_succ])
      first | refine wpB_skip 7 rfl (by kernel_rfl) (by kernel_rfl) (by kernel_rfl) (by rfl) ?_ | (refine wpB_text 7 (v := ?_) rfl (by kernel_rfl) (by kernel_rfl) (by kernel_rfl) (by rfl) (fun W hW => ?_) ?_; rotate_left; (have k1 := hW; obtain ⟨hc1, hf1⟩ := bcell k1; go_simp; refine comes_v ?_; exact k1))
      (try simp only [Act.put, List.setIfInBounds_toArray, List.set_cons_zero, List.set_cons_succ])
      first | refine wpB_skip 8 rfl (by kernel_rfl) (by kernel_rfl) (by kernel_rfl) (by rfl) ?_ | (refine wpB_text 8 (v := ?_) rfl (by kernel_rfl) (by kernel_rfl) (by kernel_rfl) (by rfl) (fun W hW => ?_) ?_; rotate_left; (have k1 := hW; obtain ⟨hc1, hf1⟩ := bcell k1; go_simp; refine comes_v ?_; exact k1))
      (try simp only [Act.put, List.setIfInBounds_toArray, List.set_cons_zero, List.set_cons_succ])
      refine wpB_done (by kernel_rfl) ?_ _
      intro W hW; have k1 := hW
      have B2 := hBl.trans (k1.mono hBl.size)
      go_wp2_with fail
      go_roundg (n - (j + 1))
      case measure => have := HGK.out; omega
      case rel => exact ⟨j + 1, by omega, rfl, by go_num, B2⟩
    · have hjn : n = j := by omega
      subst hjn
      go_wp2_with fail
      go_ret
      exact ⟨rfl, hBl⟩
/-- a call that gives p numbers F and says whether there are such -/
def RetNI (w : World) (p : Nat) (F : Nat → Int) (b : Bool) (e : Ending) (w' : World) : Prop :=
  ∃ A c, e = .returned (.tuple #[.slice A p c, .bool b]) ∧ Below w.heap.size w w' ∧ RwI w' w.heap.size w'.heap.size A p F
theorem retNI_nil {w w' : World} {F : Nat → Int} (hb : Below w.heap.size w w') : RetNI w 0 F false (.returned (.tuple #[.slice none 0 0, .bool false])) w' :=
  ⟨none, 0, rfl, hb, fun h => absurd h (by omega)⟩
/-- three numbers in a new block -/
theorem rwi_three {w : World} {g : Nat} {x y z : Int} (hg : g < w.heap.size) (h0 : w.cell? ⟨g, 0, none⟩ = some (.int .i64 x)) (h1 : w.cell? ⟨g, 1, none⟩ = some (.int .i64 y)) (h2 : w.cell? ⟨g, 2, none⟩ = some (.int .i64 z)) (hf : ∀ o, w.frozen? ⟨g, o, none⟩ = false) :
    RwI w g w.heap.size (some ⟨g, 0, none⟩) 3 (fun i => if i = 0 then x else if i = 1 then y else z) := by
  intro _
  refine ⟨g, 0, rfl, Nat.le_refl _, hg, fun i hi => ⟨?_, hf _⟩⟩
  rw [Nat.zero_add]
  match i, hi with
  | 0, _ => exact h0
  | 1, _ => exact h1
  | 2, _ => exact h2
end Go.Proofs.Ytheddoinnakneaa
/- lists of lists of numbers in memory that the call itself made: held against each other, marked, held against the marks -/
namespace Go.Proofs.Ytheddoinnakneaa
open Go.ChangeShapes Go.WideShapes Go.ChangeAt Go.RowKit Go.Joins
set_option linter.unusedVariables false
set_option linter.unusedSimpArgs false
set_option maxRecDepth 4000
def sumN (m : Nat → Nat) : Nat → Nat
  | 0 => 0
  | i + 1 => sumN m i + m i
theorem sumN_le (m : Nat → Nat) {i n : Nat} (h : i ≤ n) : sumN m i ≤ sumN m n := by
  induction n with
  | zero => have : i = 0 := by omega
            subst this; exact Nat.le_refl _
  | succ n ih =>
    by_cases hi : i = n + 1
    · rw [hi]; exact Nat.le_refl _
    · have := ih (by omega)
      show sumN m i ≤ sumN m n + m n
      omega
/-- row number i lies in block q i -/
def RowS (w : World) (lo B b off n : Nat) (q : Nat → Nat) (m : Nat → Nat) (f : Nat → Nat → Int) : Prop :=
  ∀ i, i < n → (lo ≤ q i ∧ q i < B ∧ q i ≠ b ∧ ∀ j, j < i → q j ≠ q i) ∧ ∃ Ai ci, w.cell? ⟨b, off + i, none⟩ = some (.slice Ai (m i) ci) ∧ RwI w (q i) (q i + 1) Ai (m i) (f i)
def RwS (w : World) (lo B : Nat) (A : Option Addr) (n : Nat) (m : Nat → Nat) (f : Nat → Nat → Int) : Prop :=
  0 < n → ∃ b off q, A = some ⟨b, off, none⟩ ∧ lo ≤ b ∧ b < B ∧ RowS w lo B b off n q m f
theorem rows_block {w w' : World} {lo B b off n : Nat} {q m : Nat → Nat} {f : Nat → Nat → Int} (h : RowS w lo B b off n q m f) (hb1 : lo ≤ b) (hb2 : b < B) (hk : ∀ k, lo ≤ k → k < B → w'.heap[k]? = w.heap[k]?) : RowS w' lo B b off n q m f := by
  intro i hi
  obtain ⟨h1, Ai, ci, h2, h3⟩ := h i hi
  exact ⟨h1, Ai, ci, (World.cell?_of_block (hk b hb1 hb2)).trans h2, rwi_block h3 fun k k1 k2 => hk k (by omega) (by omega)⟩
theorem rws_block {w w' : World} {lo B : Nat} {A : Option Addr} {n : Nat} {m : Nat → Nat} {f : Nat → Nat → Int} (h : RwS w lo B A n m f) (hk : ∀ k, lo ≤ k → k < B → w'.heap[k]? = w.heap[k]?) : RwS w' lo B A n m f := by
  intro hn
  obtain ⟨b, off, q, e, h1, h2, h3⟩ := h hn
  exact ⟨b, off, q, e, h1, h2, rows_block h3 h1 h2 hk⟩
theorem rws_below {w w' : World} {lo B B' : Nat} {A : Option Addr} {n : Nat} {m : Nat → Nat} {f : Nat → Nat → Int} (h : RwS w lo B A n m f) (hb : Below B' w w') (hB : B ≤ B') : RwS w' lo B A n m f :=
  rws_block h fun k _ h2 => hb.block k (by omega)
theorem rws_only {w w' : World} {lo B lo' B' : Nat} {A : Option Addr} {n : Nat} {m : Nat → Nat} {f : Nat → Nat → Int} (h : RwS w lo B A n m f) (ho : Only lo' B' w w') (hd : B ≤ lo' ∨ B' ≤ lo) : RwS w' lo B A n m f :=
  rws_block h fun k h1 h2 => ho.block k (by omega)
theorem rws_more {w : World} {lo B lo' B' : Nat} {A : Option Addr} {n : Nat} {m : Nat → Nat} {f : Nat → Nat → Int} (h : RwS w lo B A n m f) (h1 : lo' ≤ lo) (h2 : B ≤ B') : RwS w lo' B' A n m f := by
  intro hn
  obtain ⟨b, off, q, e, hb1, hb2, h3⟩ := h hn
  exact ⟨b, off, q, e, by omega, by omega, fun i hi => by
    obtain ⟨⟨k1, k2, k3⟩, k4⟩ := h3 i hi
    exact ⟨⟨by omega, by omega, k3⟩, k4⟩⟩
set_option maxHeartbeats 1000000 in
theorem eqIntSS_same (A A' : Option Addr) (c c' n : Nat) (m : Nat → Nat) (lo B lo' B' : Nat) (f : Nat → Nat → Int) (w : World) (hn : n ≤ 1048576) (hm : sumN m n ≤ 1048576) (hR : RwS w lo B A n m f) (hB : B ≤ w.heap.size) (hR' : RwS w lo' B' A' n m f) (hB' : B' ≤ w.heap.size) :
    Calls Try.prog 22 #[.slice A n c, .slice A' n c'] w fun e w' => e = .returned (.bool true) ∧ Below w.heap.size w w' := by
  have HR := Lib.hid hR
  have HR' := Lib.hid hR'
  have HM := Lib.hid hm
  clear hR hR' hm
  go_enter Try.func22, Try.ntmps22
  go_wp2_with fail
  go_loopg [5] n (fun g i wr => ∃ j : Nat, j ≤ n ∧ g = n - j ∧ i = .int .i64 j ∧ Below w.heap.size w wr)
  case atStart => exact ⟨0, Nat.zero_le _, rfl, rfl, Below.refl _ _⟩
  case round =>
    obtain ⟨j, hj, hg, rfl, hBl⟩ := hrel
    rename World => wo
    have HGK := Lib.hid hg
    clear hg
    by_cases hlt : j < n
    · obtain ⟨b, off, q, hA, hb1, hb2, hc⟩ := HR.out (by omega)
      obtain ⟨b', off', q', hA', hb1', hb2', hc'⟩ := HR'.out (by omega)
      subst hA hA'
      obtain ⟨⟨u1, u2, _⟩, Aj, cj, d1, r1⟩ := hc j hlt
      obtain ⟨⟨u3, u4, _⟩, Aj', cj', d2, r2⟩ := hc' j hlt
      have e1 : wo.cell? ⟨b, off + j, none⟩ = some (.slice Aj (m j) cj) := (hBl.cell (p := ⟨b, off + j, none⟩) (by show b < w.heap.size; omega)).trans d1
      have e2 : wo.cell? ⟨b', off' + j, none⟩ = some (.slice Aj' (m j) cj') := (hBl.cell (p := ⟨b', off' + j, none⟩) (by show b' < w.heap.size; omega)).trans d2
      have z3 : b < wo.heap.size := by have := hBl.size; omega
      have z4 : b' < wo.heap.size := by have := hBl.size; omega
      have mj : m j ≤ 1048576 := by
        have h1 := sumN_le m (i := j + 1) (n := n) (by omega)
        have h2 : sumN m (j + 1) = sumN m j + m j := rfl
        have := HM.out
        omega
      have KE := Lib.hid (fun W (hW : Below wo.heap.size wo W) => eqIntS_same Aj Aj' cj cj' (m j) (q j) (q j + 1) (q' j) (q' j + 1) (f j) W mj (rwi_below (rwi_below r1 hBl (by omega)) hW (by have := hBl.size; omega)) (by have := hBl.size; have := hW.size; omega) (rwi_below (rwi_below r2 hBl (by omega)) hW (by have := hBl.size; omega)) (by have := hBl.size; have := hW.size; omega))
      have zz := hBl.size
      clear hc hc' d1 d2 r1 r2
      generalize m j = mj' at *
      go_wp2_with fail
      refine wp_region_B (fun W => Below wo.heap.size wo W) (by kernel_rfl) (Below.refl _ _).drew ?_
      first | refine wpB_skip 0 rfl (by kernel_rfl) (by kernel_rfl) (by kernel_rfl) (by rfl) ?_ | (refine wpB_text 0 (v := ?_) rfl (by kernel_rfl) (by kernel_rfl) (by kernel_rfl) (by rfl) (fun W hW => ?_) ?_; rotate_left; (have k1 := hW; obtain ⟨hc1, hf1⟩ := bcell k1; go_simp; refine comes_v ?_; exact k1))
      (try simp only [Act.put, List.setIfInBounds_toArray, List.set_cons_zero, List.set_cons_succ])
      first | refine wpB_skip 1 rfl (by kernel_rfl) (by kernel_rfl) (by kernel_rfl) (by rfl) ?_ | (refine wpB_text 1 (v := ?_) rfl (by kernel_rfl) (by kernel_rfl) (by kernel_rfl) (by rfl) (fun W hW => ?_) ?_; rotate_left; (have k1 := hW; obtain ⟨hc1, hf1⟩ := bcell k1; go_simp; refine comes_v ?_; exact k1))
      (try simp only [Act.put, List.setIfInBounds_toArray, List.set_cons_zero, List.set_cons_succ])
      first | refine wpB_skip 2 rfl (by kernel_rfl) (by kernel_rfl) (by kernel_rfl) (by rfl) ?_ | (refine wpB_text 2 (v := ?_) rfl (by kernel_rfl) (by kernel_rfl) (by kernel_rfl) (by rfl) (fun W hW => ?_) ?_; rotate_left; (have k1 := hW; obtain ⟨hc1, hf1⟩ := bcell k1; go_simp; refine comes_v ?_; exact k1))
      (try simp only [Act.put, List.setIfInBounds_toArray, List.set_cons_zero, List.set_cons_succ])
      first | refine wpB_skip 3 rfl (by kernel_rfl) (by kernel_rfl) (by kernel_rfl) (by rfl) ?_ | (refine wpB_text 3 (v := ?_) rfl (by kernel_rfl) (by kernel_rfl) (by kernel_rfl) (by rfl) (fun W hW => ?_) ?_; rotate_left; (have k1 := hW; obtain ⟨hc1, hf1⟩ := bcell k1; go_simp; refine comes_v ?_; exact k1))
      (try simp only [Act.put, List.setIfInBounds_toArray, List.set_cons_zero, List.set_cons_succ])
      first | refine wpB_skip 4 rfl (by kernel_rfl) (by kernel_rfl) (by kernel_rfl) (by rfl) ?_ | (refine wpB_text 4 (v := ?_) rfl (by kernel_rfl) (by kernel_rfl) (by kernel_rfl) (by rfl) (fun W hW => ?_) ?_; rotate_left; (have k1 := hW; obtain ⟨hc1, hf1⟩ := bcell k1; go_simp; refine comes_v ?_; exact k1))
      (try simp only [Act.put, List.setIfInBounds_toArray, List.set_cons_zero, List.set_cons_succ])
      first | refine wpB_skip 5 rfl (by kernel_rfl) (by kernel_rfl) (by kernel_rfl) (by rfl) ?_ | (refine wpB_text 5 (v := ?_) rfl (by kernel_rfl) (by kernel_rfl) (by kernel_rfl) (by rfl) (fun W hW => ?_) ?_; rotate_left; (have k1 := hW; obtain ⟨hc1, hf1⟩ := bcell k1; go_simp; refine comes_v ?_; exact k1))
      (try simp only [Act.put, List.setIfInBounds_toArray, List.set_cons_zero, List.set_cons_succ])
      first | refine wpB_skip 6 rfl (by kernel_rfl) (by kernel_rfl) (by kernel_rfl) (by rfl) ?_ | (refine wpB_text 6 (v := ?_) rfl (by kernel_rfl) (by kernel_rfl) (by kernel_rfl) (by rfl) (fun W hW => ?_) ?_; rotate_left; (have k1 := hW; obtain ⟨hc1, hf1⟩ := bcell k1; go_simp; refine comes_v ?_; exact k1))
      (try simp only [Act.put, List.setIfInBounds_toArray, List.set_cons_zero, List.set_cons_succ])
      first | refine wpB_skip 7 rfl (by kernel_rfl) (by kernel_rfl) (by kernel_rfl) (by rfl) ?_ | (refine wpB_text 7 (v := ?_) rfl (by kernel_rfl) (by kernel_rfl) (by kernel_rfl) (by rfl) (fun W hW => ?_) ?_; rotate_left; (have k1 := hW; obtain ⟨hc1, hf1⟩ := bcell k1; go_simp; refine comes_v ?_; exact k1))
      (try simp only [Act.put, List.setIfInBounds_toArray, List.set_cons_zero, List.set_cons_succ])
      first | refine wpB_skip 8 rfl (by kernel_rfl) (by kernel_rfl) (by kernel_rfl) (by rfl) ?_ | (refine wpB_text 8 (v := .bool true) rfl (by kernel_rfl) (by kernel_rfl) (by kernel_rfl) (by rfl) (fun W hW => ?_) ?_; (have k1 := hW; obtain ⟨hc1, hf1⟩ := bcell k1; go_simp; exact comes_c ( KE.out _ k1) (fun wn hbn => bw_keep k1 hbn)))
      (try simp only [Act.put, List.setIfInBounds_toArray, List.set_cons_zero, List.set_cons_succ])
      first | refine wpB_skip 9 rfl (by kernel_rfl) (by kernel_rfl) (by kernel_rfl) (by rfl) ?_ | (refine wpB_text 9 (v := ?_) rfl (by kernel_rfl) (by kernel_rfl) (by kernel_rfl) (by rfl) (fun W hW => ?_) ?_; rotate_left; (have k1 := hW; obtain ⟨hc1, hf1⟩ := bcell k1; go_simp; refine comes_v ?_; exact k1))
      (try simp only [Act.put, List.setIfInBounds_toArray, List.set_cons_zero, List.set_cons_succ])
      refine wpB_done (by kernel_rfl) ?_ _
      intro W hW; have k1 := hW
      have B2 := hBl.trans (k1.mono hBl.size)
      go_wp2_with fail
      go_roundg (n - (j + 1))
      case measure => have := HGK.out; omega
      case rel => exact ⟨j + 1, by omega, rfl, by go_num, B2⟩
    · have hjn : n = j := by omega
      subst hjn
      go_wp2_with fail
      go_ret
      exact ⟨rfl, hBl⟩
theorem only_trans {lo B : Nat} {w W W' : World} (h : Only lo B w W) (h' : Only lo B W W') : Only lo B w W' :=
  ⟨h'.os.trans h.os, h'.tape.trans h.tape, h'.output.trans h.output, h'.size.trans h.size, fun k hk => (h'.block k hk).trans (h.block k hk)⟩
/-- the marks of the first j rows, the numbers of the others -/
def mixS (k : Int) (m : Nat → Nat) (j : Nat) (f : Nat → Nat → Int) (i t : Nat) : Int := if i < j then k + (sumN m i : Int) + (t : Int) else f i t
theorem mark_row {w W W' : World} {lo B b off n j : Nat} {q m : Nat → Nat} {f : Nat → Nat → Int} {k : Int} {Aj : Option Addr} {cj : Nat} (hb1 : lo ≤ b) (hb2 : b < B) (ho0 : Only lo B w W) (h : RowS W lo B b off n q m (mixS k m j f)) (hj : j < n)
    (hc : W.cell? ⟨b, off + j, none⟩ = some (.slice Aj (m j) cj)) (ho : Only (q j) (q j + 1) W W') (hr : RwI W' (q j) (q j + 1) Aj (m j) (fun t => k + (sumN m j : Int) + (t : Int))) :
    Only lo B w W' ∧ RowS W' lo B b off n q m (mixS k m (j + 1) f) := by
  obtain ⟨⟨v1, v2, v3, v4⟩, _⟩ := h j hj
  have hbb : W'.heap[b]? = W.heap[b]? := ho.block b (by omega)
  refine ⟨only_trans ho0 (ho.more v1 (by omega)), fun i hi => ?_⟩
  obtain ⟨hq, Ai, ci, h2, h3⟩ := h i hi
  by_cases hij : i = j
  · subst hij
    rw [hc] at h2
    injection h2 with h2
    injection h2 with e1 e2 e3
    subst e1 e3
    refine ⟨hq, Aj, cj, (World.cell?_of_block hbb).trans hc, rwi_same hr fun t ht => ?_⟩
    unfold mixS
    rw [if_pos (by omega)]
  · have hd : q i ≠ q j := by
      rcases Nat.lt_or_ge i j with h0 | h0
      · exact v4 i h0
      · exact fun e => hq.2.2.2 j (by omega) e.symm
    refine ⟨hq, Ai, ci, (World.cell?_of_block hbb).trans h2, rwi_same (rwi_only h3 ho (by omega)) fun t ht => ?_⟩
    unfold mixS
    by_cases h1 : i < j
    · rw [if_pos h1, if_pos (by omega)]
    · rw [if_neg h1, if_neg (by omega)]
set_option maxHeartbeats 1000000 in
theorem markIntSS_any (A : Option Addr) (c n : Nat) (m : Nat → Nat) (k : Int) (lo B : Nat) (f : Nat → Nat → Int) (w : World) (hn : n ≤ 1048576) (hm : sumN m n ≤ 1048576) (hk1 : 1 ≤ k) (hk2 : k ≤ 10000000) (hR : RwS w lo B A n m f) :
    Calls Try.prog 24 #[.slice A n c, .int .i64 k] w fun e w' => e = .returned (.int .i64 (k + (sumN m n : Int))) ∧ Only lo B w w' ∧ RwS w' lo B A n m (fun i t => k + (sumN m i : Int) + (t : Int)) := by
  by_cases hn0 : n = 0
  · subst hn0
    clear hR
    go_enter Try.func24, Try.ntmps24
    go_wp2_with fail
    go_loopg [1, 5] 0 (fun g u i wr => i = .int .i64 0 ∧ u = .int .i64 k ∧ wr = w)
    case atStart => exact ⟨rfl, rfl, rfl⟩
    case round =>
      obtain ⟨rfl, rfl, rfl⟩ := hrel
      go_wp2_with fail
      go_ret
      exact ⟨ret_int (by show k = k + ((0 : Nat) : Int); omega), Only.refl _ _ _, fun h => absurd h (by omega)⟩
  obtain ⟨b, off, q, rfl, hb1, hb2, hr⟩ := hR (by omega)
  have HS := Lib.hid (show RowS w lo B b off n q m (mixS k m 0 f) from fun i hi => by
    obtain ⟨h1, Ai, ci, h2, h3⟩ := hr i hi
    exact ⟨h1, Ai, ci, h2, rwi_same h3 fun t ht => by unfold mixS; rw [if_neg (by omega)]⟩)
  have HM := Lib.hid hm
  clear hR hr hm
  go_enter Try.func24, Try.ntmps24
  go_wp2_with fail
  go_loopg [1, 5] n (fun g u i wr => ∃ j : Nat, j ≤ n ∧ g = n - j ∧ i = .int .i64 j ∧ u = .int .i64 (k + (sumN m j : Int)) ∧ Hid (Only lo B w wr ∧ RowS wr lo B b off n q m (mixS k m j f)))
  case atStart => exact ⟨0, Nat.zero_le _, rfl, rfl, by rw [show k + ((sumN m 0 : Nat) : Int) = k by show k + ((0 : Nat) : Int) = k; omega], Lib.hid ⟨Only.refl _ _ _, HS.out⟩⟩
  case round =>
    obtain ⟨j, hj, hg, rfl, rfl, hM⟩ := hrel
    rename World => wo
    have HGK := Lib.hid hg
    clear hg HS
    by_cases hlt : j < n
    · obtain ⟨_, Aj, cj, c1, r1⟩ := hM.out.2 j hlt
      have hs1 := sumN_le m (i := j + 1) (n := n) (by omega)
      have hs2 : sumN m (j + 1) = sumN m j + m j := rfl
      have hs3 := HM.out
      have KM := Lib.hid (markIntS_any Aj cj (m j) (k + (sumN m j : Int)) (q j) (q j + 1) _ wo (by omega) (by omega) (by omega) r1)
      have C1 := Lib.hid c1
      have E2 : Hid (k + (sumN m j : Int) + (m j : Int) = k + (sumN m (j + 1) : Int)) := Lib.hid (by rw [hs2]; omega)
      clear r1 hs1 hs2 hs3
      generalize hmj : m j = mj at *
      generalize hsj : sumN m j = sj at *
      have HE := Lib.hid (And.intro hmj hsj)
      clear hmj hsj
      go_wp2_with fail
      refine KM.out.mono ?_; rintro e w2 ⟨rfl, ho, hr2⟩
      have S2 := Lib.hid (by
        obtain ⟨h1, h2⟩ := HE.out
        subst h1 h2
        exact mark_row hb1 hb2 hM.out.1 hM.out.2 hlt C1.out ho hr2)
      clear ho hr2 c1
      go_wp2_with fail
      go_roundg (n - (j + 1))
      case measure => have := HGK.out; omega
      case rel => exact ⟨j + 1, by omega, rfl, by go_num, by rw [← E2.out], S2⟩
    · have hjn : n = j := by omega
      subst hjn
      go_wp2_with fail
      go_ret
      refine ⟨rfl, hM.out.1, fun _ => ⟨b, off, q, rfl, hb1, hb2, fun i hi => ?_⟩⟩
      obtain ⟨h1, Ai, ci, h2, h3⟩ := hM.out.2 i hi
      exact ⟨h1, Ai, ci, h2, rwi_same h3 fun t ht => by unfold mixS; rw [if_pos hi]⟩
set_option maxHeartbeats 1000000 in
theorem heldIntSS_any (A : Option Addr) (c n : Nat) (m : Nat → Nat) (k : Int) (lo B : Nat) (w : World) (hn : n ≤ 1048576) (hm : sumN m n ≤ 1048576) (hk1 : 1 ≤ k) (hk2 : k ≤ 10000000) (hR : RwS w lo B A n m (fun i t => k + (sumN m i : Int) + (t : Int))) :
    Calls Try.prog 25 #[.slice A n c, .int .i64 k] w fun e w' => e = .returned (.int .i64 (k + (sumN m n : Int))) ∧ w = w' := by
  have HR := Lib.hid hR
  have HM := Lib.hid hm
  clear hR hm
  go_enter Try.func25, Try.ntmps25
  go_wp2_with fail
  go_loopg [1, 5] n (fun g u i wr => ∃ j : Nat, j ≤ n ∧ g = n - j ∧ i = .int .i64 j ∧ u = .int .i64 (k + (sumN m j : Int)) ∧ w = wr)
  case atStart => exact ⟨0, Nat.zero_le _, rfl, rfl, by rw [show k + ((sumN m 0 : Nat) : Int) = k by show k + ((0 : Nat) : Int) = k; omega], rfl⟩
  case round =>
    obtain ⟨j, hj, hg, rfl, rfl, rfl⟩ := hrel
    have HGK := Lib.hid hg
    clear hg
    by_cases hlt : j < n
    · obtain ⟨b, off, q, hA, hb1, hb2, hr⟩ := HR.out (by omega)
      subst hA
      obtain ⟨_, Aj, cj, c1, r1⟩ := hr j hlt
      have hs1 := sumN_le m (i := j + 1) (n := n) (by omega)
      have hs2 : sumN m (j + 1) = sumN m j + m j := rfl
      have hs3 := HM.out
      have KM := Lib.hid (heldIntS_any Aj cj (m j) (k + (sumN m j : Int)) (q j) (q j + 1) w (by omega) (by omega) (by omega) r1)
      have E2 : Hid (k + (sumN m j : Int) + (m j : Int) = k + (sumN m (j + 1) : Int)) := Lib.hid (by rw [hs2]; omega)
      have P2 : ¬ (k + (sumN m j : Int) + (m j : Int) < 0) := by omega
      clear r1 hs1 hs2 hs3 hr
      generalize m j = mj at *
      generalize sumN m j = sj at *
      go_wp2_with fail
      refine KM.out.mono ?_; rintro e _ ⟨rfl, rfl⟩
      go_wp2_with fail
      go_roundg (n - (j + 1))
      case measure => have := HGK.out; omega
      case rel => exact ⟨j + 1, by omega, rfl, by go_num, by rw [← E2.out], rfl⟩
    · have hjn : n = j := by omega
      subst hjn
      go_wp2_with fail
      go_ret
      exact ⟨rfl, rfl⟩
end Go.Proofs.Ytheddoinnakneaa
/- how many steps a line has -/
namespace Go.Proofs.Ytheddoinnakneaa
open Go.ChangeShapes Go.WideShapes Go.ChangeAt Go.RowKit Go.Joins
set_option linter.unusedVariables false
set_option linter.unusedSimpArgs false
set_option maxRecDepth 4000
/-- the number of steps of a line -/
def stepN (a1 a2 b1 b2 : Int) : Int := ((Nat.gcd (a1 - b1).natAbs (a2 - b2).natAbs : Nat) : Int)
theorem stepN_bd {a1 a2 b1 b2 : Int} (ha : isPegB a1 a2 = true) (hb : isPegB b1 b2 = true) : 0 ≤ stepN a1 a2 b1 b2 ∧ stepN a1 a2 b1 b2 ≤ 160 := by
  unfold isPegB at *
  simp at ha hb
  unfold stepN
  rcases Nat.eq_zero_or_pos (a1 - b1).natAbs with h | h
  · rw [h, Nat.gcd_zero_left]; omega
  · have := Nat.le_of_dvd h (Nat.gcd_dvd_left (a1 - b1).natAbs (a2 - b2).natAbs); omega
end Go.Proofs.Ytheddoinnakneaa
/- two lists of points held against each other -/
namespace Go.Proofs.Ytheddoinnakneaa
open Go.ChangeShapes Go.WideShapes Go.ChangeAt Go.RowKit Go.Joins
set_option linter.unusedVariables false
set_option linter.unusedSimpArgs false
set_option maxRecDepth 4000
theorem eqPeg_any (a1 a2 b1 b2 : Int) (w : World) :
    Calls Try.prog 47 #[.agg #[.int .i64 a1, .int .i64 a2], .agg #[.int .i64 b1, .int .i64 b2]] w fun e w' => e = .returned (.bool (decide ((a1, a2) = (b1, b2)))) ∧ Below w.heap.size w w' := by
  by_cases h1 : a1 = b1
  · by_cases h2 : a2 = b2
    · subst h1 h2
      go_enter Try.func47, Try.ntmps47
      go_wp2_with fail
      go_ret
      exact ⟨ret_bool (by simp), (by repeat (first | exact Below.refl _ _ | assumption | apply Below.drew | refine Below.alloc ?_ (by simp <;> omega) _))⟩
    · subst h1
      go_enter Try.func47, Try.ntmps47
      go_wp2_with fail
      go_ret
      exact ⟨ret_bool (by simp [h2]), (by repeat (first | exact Below.refl _ _ | assumption | apply Below.drew | refine Below.alloc ?_ (by simp <;> omega) _))⟩
  · go_enter Try.func47, Try.ntmps47
    go_wp2_with fail
    go_ret
    exact ⟨ret_bool (by simp [h1]), (by repeat (first | exact Below.refl _ _ | assumption | apply Below.drew | refine Below.alloc ?_ (by simp <;> omega) _))⟩
theorem eq_at {l m : List (Int × Int)} (h : l.length = m.length) : l = m ↔ ∀ (k : Nat) (p q : Int × Int), l[k]? = some p → m[k]? = some q → p = q := by
  constructor
  · rintro rfl k p q hp hq
    rw [hp] at hq; injection hq
  · intro H
    apply List.ext_getElem h
    intro i h1 h2
    exact H i _ _ (List.getElem?_eq_getElem h1) (List.getElem?_eq_getElem h2)
/-- the same so far -/
def Same (l m : List (Int × Int)) (k : Nat) : Prop := ∀ i p q, i < k → l[i]? = some p → m[i]? = some q → p = q
theorem eqPegS_any (A B : Option Addr) (c d : Nat) (l m : List (Int × Int)) (w : World) (hn : l.length ≤ 1048576) (hm : m.length ≤ 1048576) (hA : Rd w w.heap.size A l) (hB : Rd w w.heap.size B m) :
    Calls Try.prog 19 #[.slice A l.length c, .slice B m.length d] w fun e w' => e = .returned (.bool (decide (l = m))) ∧ Below w.heap.size w w' := by
  by_cases hl : l.length = m.length
  · have HL := Lib.hid hl
    have RA := Lib.hid hA
    have RB := Lib.hid hB
    clear hA hB
    rw [← hl] at hm ⊢
    clear hl
    generalize hN : l.length = n at *
    have HN := Lib.hid hN
    clear hN
    go_enter Try.func19, Try.ntmps19
    go_wp2_with fail
    go_loopw [5] (fun i wr => ∃ k : Nat, i = .int .i64 k ∧ k ≤ n ∧ Below w.heap.size w wr ∧ Hid (Same l m k)) (fun i _ => n - (intOf i).toNat)
    case atStart => exact ⟨0, rfl, Nat.zero_le _, Below.refl _ _, Lib.hid (fun i p q h => absurd h (Nat.not_lt_zero _))⟩
    case round =>
      obtain ⟨k, rfl, hk, hBel, hS⟩ := hrel
      by_cases hlt : k < n
      · have hg1 : ∃ p, l[k]? = some p := ⟨_, List.getElem?_eq_getElem (by have := HN.out; omega)⟩
        have hg2 : ∃ q, m[k]? = some q := ⟨_, List.getElem?_eq_getElem (by have := HN.out; have := HL.out; omega)⟩
        obtain ⟨p, hp⟩ := hg1
        obtain ⟨q, hq⟩ := hg2
        obtain ⟨b, off, hA, hb, hcA⟩ := RA.out (by have := HN.out; omega)
        obtain ⟨b', off', hA', hb', hcB⟩ := RB.out (by have := HN.out; have := HL.out; omega)
        subst hA hA'
        have k0 : ∀ W, Below w.heap.size w W → (Below w.heap.size w W ∧ W.cell? ⟨b, off + k * 2, none⟩ = some (.int .i64 p.1) ∧ W.cell? ⟨b, off + k * 2 + 1, none⟩ = some (.int .i64 p.2) ∧ W.cell? ⟨b', off' + k * 2, none⟩ = some (.int .i64 q.1) ∧ W.cell? ⟨b', off' + k * 2 + 1, none⟩ = some (.int .i64 q.2)) := fun W hW =>
          ⟨hW, (hW.cell (p := ⟨b, off + k * 2, none⟩) hb).trans (hcA k p hp).1, (hW.cell (p := ⟨b, off + k * 2 + 1, none⟩) hb).trans (hcA k p hp).2, (hW.cell (p := ⟨b', off' + k * 2, none⟩) hb').trans (hcB k q hq).1, (hW.cell (p := ⟨b', off' + k * 2 + 1, none⟩) hb').trans (hcB k q hq).2⟩
        have K0 := Lib.hid k0
        have kp : ∀ W W', (Below w.heap.size w W ∧ W.cell? ⟨b, off + k * 2, none⟩ = some (.int .i64 p.1) ∧ W.cell? ⟨b, off + k * 2 + 1, none⟩ = some (.int .i64 p.2) ∧ W.cell? ⟨b', off' + k * 2, none⟩ = some (.int .i64 q.1) ∧ W.cell? ⟨b', off' + k * 2 + 1, none⟩ = some (.int .i64 q.2)) → Below W.heap.size W W' → (Below w.heap.size w W' ∧ W'.cell? ⟨b, off + k * 2, none⟩ = some (.int .i64 p.1) ∧ W'.cell? ⟨b, off + k * 2 + 1, none⟩ = some (.int .i64 p.2) ∧ W'.cell? ⟨b', off' + k * 2, none⟩ = some (.int .i64 q.1) ∧ W'.cell? ⟨b', off' + k * 2 + 1, none⟩ = some (.int .i64 q.2)) := fun W W' h hb => k0 W' (h.1.trans (hb.mono h.1.size))
        have KP := Lib.hid kp
        clear kp
        have HP := Lib.hid hp
        have HQ := Lib.hid hq
        clear k0 hcA hcB hp hq
        by_cases hpq : p = q
        · have EQ := Lib.hid (fun W => (eqPeg_any p.1 p.2 q.1 q.2 W).mono fun e w' h => (show e = .returned (.bool true) ∧ Below W.heap.size W w' from ⟨h.1.trans (ret_bool (by simp [hpq])), h.2⟩))
          have hS2 : Hid (Same l m (k + 1)) := Lib.hid (fun i p' q' h hp' hq' => by
            by_cases hik : i = k
            · subst hik
              have e1 := HP.out
              have e2 := HQ.out
              rw [hp'] at e1
              rw [hq'] at e2
              injection e1 with e1
              injection e2 with e2
              rw [e1, e2, hpq]
            · exact hS.out i p' q' (by omega) hp' hq')
          clear hpq hS
          go_wp2_with fail
          refine wp_region_B (fun W => Below w.heap.size w W ∧ W.cell? ⟨b, off + k * 2, none⟩ = some (.int .i64 p.1) ∧ W.cell? ⟨b, off + k * 2 + 1, none⟩ = some (.int .i64 p.2) ∧ W.cell? ⟨b', off' + k * 2, none⟩ = some (.int .i64 q.1) ∧ W.cell? ⟨b', off' + k * 2 + 1, none⟩ = some (.int .i64 q.2)) (by kernel_rfl) (K0.out _ hBel.drew) ?_
          first | refine wpB_skip 0 rfl (by kernel_rfl) (by kernel_rfl) (by kernel_rfl) (by rfl) ?_ | (refine wpB_text 0 (v := ?_) rfl (by kernel_rfl) (by kernel_rfl) (by kernel_rfl) (by rfl) (fun W hW => ?_) ?_; rotate_left; (obtain ⟨k1, k2, k3, k4, k5⟩ := hW;  go_simp; refine comes_v ?_; exact ⟨k1, k2, k3, k4, k5⟩))
          (try simp only [Act.put, List.setIfInBounds_toArray, List.set_cons_zero, List.set_cons_succ])
          first | refine wpB_skip 1 rfl (by kernel_rfl) (by kernel_rfl) (by kernel_rfl) (by rfl) ?_ | (refine wpB_text 1 (v := ?_) rfl (by kernel_rfl) (by kernel_rfl) (by kernel_rfl) (by rfl) (fun W hW => ?_) ?_; rotate_left; (obtain ⟨k1, k2, k3, k4, k5⟩ := hW;  go_simp; refine comes_v ?_; exact ⟨k1, k2, k3, k4, k5⟩))
          (try simp only [Act.put, List.setIfInBounds_toArray, List.set_cons_zero, List.set_cons_succ])
          first | refine wpB_skip 2 rfl (by kernel_rfl) (by kernel_rfl) (by kernel_rfl) (by rfl) ?_ | (refine wpB_text 2 (v := ?_) rfl (by kernel_rfl) (by kernel_rfl) (by kernel_rfl) (by rfl) (fun W hW => ?_) ?_; rotate_left; (obtain ⟨k1, k2, k3, k4, k5⟩ := hW;  go_simp; refine comes_v ?_; exact ⟨k1, k2, k3, k4, k5⟩))
          (try simp only [Act.put, List.setIfInBounds_toArray, List.set_cons_zero, List.set_cons_succ])
          first | refine wpB_skip 3 rfl (by kernel_rfl) (by kernel_rfl) (by kernel_rfl) (by rfl) ?_ | (refine wpB_text 3 (v := ?_) rfl (by kernel_rfl) (by kernel_rfl) (by kernel_rfl) (by rfl) (fun W hW => ?_) ?_; rotate_left; (obtain ⟨k1, k2, k3, k4, k5⟩ := hW;  go_simp; refine comes_v ?_; exact ⟨k1, k2, k3, k4, k5⟩))
          (try simp only [Act.put, List.setIfInBounds_toArray, List.set_cons_zero, List.set_cons_succ])
          first | refine wpB_skip 4 rfl (by kernel_rfl) (by kernel_rfl) (by kernel_rfl) (by rfl) ?_ | (refine wpB_text 4 (v := ?_) rfl (by kernel_rfl) (by kernel_rfl) (by kernel_rfl) (by rfl) (fun W hW => ?_) ?_; rotate_left; (obtain ⟨k1, k2, k3, k4, k5⟩ := hW;  go_simp; refine comes_v ?_; exact ⟨k1, k2, k3, k4, k5⟩))
          (try simp only [Act.put, List.setIfInBounds_toArray, List.set_cons_zero, List.set_cons_succ])
          first | refine wpB_skip 5 rfl (by kernel_rfl) (by kernel_rfl) (by kernel_rfl) (by rfl) ?_ | (refine wpB_text 5 (v := ?_) rfl (by kernel_rfl) (by kernel_rfl) (by kernel_rfl) (by rfl) (fun W hW => ?_) ?_; rotate_left; (obtain ⟨k1, k2, k3, k4, k5⟩ := hW;  go_simp; refine comes_v ?_; exact ⟨k1, k2, k3, k4, k5⟩))
          (try simp only [Act.put, List.setIfInBounds_toArray, List.set_cons_zero, List.set_cons_succ])
          first | refine wpB_skip 6 rfl (by kernel_rfl) (by kernel_rfl) (by kernel_rfl) (by rfl) ?_ | (refine wpB_text 6 (v := ?_) rfl (by kernel_rfl) (by kernel_rfl) (by kernel_rfl) (by rfl) (fun W hW => ?_) ?_; rotate_left; (obtain ⟨k1, k2, k3, k4, k5⟩ := hW;  go_simp; refine comes_v ?_; exact ⟨k1, k2, k3, k4, k5⟩))
          (try simp only [Act.put, List.setIfInBounds_toArray, List.set_cons_zero, List.set_cons_succ])
          first | refine wpB_skip 7 rfl (by kernel_rfl) (by kernel_rfl) (by kernel_rfl) (by rfl) ?_ | (refine wpB_text 7 (v := ?_) rfl (by kernel_rfl) (by kernel_rfl) (by kernel_rfl) (by rfl) (fun W hW => ?_) ?_; rotate_left; (obtain ⟨k1, k2, k3, k4, k5⟩ := hW;  go_simp; refine comes_v ?_; exact ⟨k1, k2, k3, k4, k5⟩))
          (try simp only [Act.put, List.setIfInBounds_toArray, List.set_cons_zero, List.set_cons_succ])
          first | refine wpB_skip 8 rfl (by kernel_rfl) (by kernel_rfl) (by kernel_rfl) (by rfl) ?_ | (refine wpB_text 8 (v := .bool true) rfl (by kernel_rfl) (by kernel_rfl) (by kernel_rfl) (by rfl) (fun W hW => ?_) ?_; (obtain ⟨k1, k2, k3, k4, k5⟩ := hW;  go_simp; exact comes_c ( EQ.out _) (fun wn hbn => KP.out _ _ ⟨k1, k2, k3, k4, k5⟩ hbn)))
          (try simp only [Act.put, List.setIfInBounds_toArray, List.set_cons_zero, List.set_cons_succ])
          first | refine wpB_skip 9 rfl (by kernel_rfl) (by kernel_rfl) (by kernel_rfl) (by rfl) ?_ | (refine wpB_text 9 (v := ?_) rfl (by kernel_rfl) (by kernel_rfl) (by kernel_rfl) (by rfl) (fun W hW => ?_) ?_; rotate_left; (obtain ⟨k1, k2, k3, k4, k5⟩ := hW;  go_simp; refine comes_v ?_; exact ⟨k1, k2, k3, k4, k5⟩))
          (try simp only [Act.put, List.setIfInBounds_toArray, List.set_cons_zero, List.set_cons_succ])
          refine wpB_done (by kernel_rfl) ?_ _
          intro W hW; obtain ⟨k1, k2, k3, k4, k5⟩ := hW
          go_wp2_with fail
          go_roundw
          case rel => first | exact ⟨k + 1, by go_num, by omega, k1, hS2⟩ | ((repeat apply Exists.intro); exact ⟨⟨k + 1, by go_num, by omega, k1, hS2⟩, rfl⟩)
          case measure => simp [intOf]; omega
        · have EQ := Lib.hid (fun W => (eqPeg_any p.1 p.2 q.1 q.2 W).mono fun e w' h => (show e = .returned (.bool false) ∧ Below W.heap.size W w' from ⟨h.1.trans (ret_bool (decide_eq_false hpq)), h.2⟩))
          have hne : Hid (¬ l = m) := Lib.hid (fun e => hpq (by have e1 := HP.out; rw [e, HQ.out] at e1; injection e1 with e1; exact e1.symm))
          clear hpq hS
          go_wp2_with fail
          refine wp_region_B (fun W => Below w.heap.size w W ∧ W.cell? ⟨b, off + k * 2, none⟩ = some (.int .i64 p.1) ∧ W.cell? ⟨b, off + k * 2 + 1, none⟩ = some (.int .i64 p.2) ∧ W.cell? ⟨b', off' + k * 2, none⟩ = some (.int .i64 q.1) ∧ W.cell? ⟨b', off' + k * 2 + 1, none⟩ = some (.int .i64 q.2)) (by kernel_rfl) (K0.out _ hBel.drew) ?_
          first | refine wpB_skip 0 rfl (by kernel_rfl) (by kernel_rfl) (by kernel_rfl) (by rfl) ?_ | (refine wpB_text 0 (v := ?_) rfl (by kernel_rfl) (by kernel_rfl) (by kernel_rfl) (by rfl) (fun W hW => ?_) ?_; rotate_left; (obtain ⟨k1, k2, k3, k4, k5⟩ := hW;  go_simp; refine comes_v ?_; exact ⟨k1, k2, k3, k4, k5⟩))
          (try simp only [Act.put, List.setIfInBounds_toArray, List.set_cons_zero, List.set_cons_succ])
          first | refine wpB_skip 1 rfl (by kernel_rfl) (by kernel_rfl) (by kernel_rfl) (by rfl) ?_ | (refine wpB_text 1 (v := ?_) rfl (by kernel_rfl) (by kernel_rfl) (by kernel_rfl) (by rfl) (fun W hW => ?_) ?_; rotate_left; (obtain ⟨k1, k2, k3, k4, k5⟩ := hW;  go_simp; refine comes_v ?_; exact ⟨k1, k2, k3, k4, k5⟩))
          (try simp only [Act.put, List.setIfInBounds_toArray, List.set_cons_zero, List.set_cons_succ])
          first | refine wpB_skip 2 rfl (by kernel_rfl) (by kernel_rfl) (by kernel_rfl) (by rfl) ?_ | (refine wpB_text 2 (v := ?_) rfl (by kernel_rfl) (by kernel_rfl) (by kernel_rfl) (by rfl) (fun W hW => ?_) ?_; rotate_left; (obtain ⟨k1, k2, k3, k4, k5⟩ := hW;  go_simp; refine comes_v ?_; exact ⟨k1, k2, k3, k4, k5⟩))
          (try simp only [Act.put, List.setIfInBounds_toArray, List.set_cons_zero, List.set_cons_succ])
          first | refine wpB_skip 3 rfl (by kernel_rfl) (by kernel_rfl) (by kernel_rfl) (by rfl) ?_ | (refine wpB_text 3 (v := ?_) rfl (by kernel_rfl) (by kernel_rfl) (by kernel_rfl) (by rfl) (fun W hW => ?_) ?_; rotate_left; (obtain ⟨k1, k2, k3, k4, k5⟩ := hW;  go_simp; refine comes_v ?_; exact ⟨k1, k2, k3, k4, k5⟩))
          (try simp only [Act.put, List.setIfInBounds_toArray, List.set_cons_zero, List.set_cons_succ])
          first | refine wpB_skip 4 rfl (by kernel_rfl) (by kernel_rfl) (by kernel_rfl) (by rfl) ?_ | (refine wpB_text 4 (v := ?_) rfl (by kernel_rfl) (by kernel_rfl) (by kernel_rfl) (by rfl) (fun W hW => ?_) ?_; rotate_left; (obtain ⟨k1, k2, k3, k4, k5⟩ := hW;  go_simp; refine comes_v ?_; exact ⟨k1, k2, k3, k4, k5⟩))
          (try simp only [Act.put, List.setIfInBounds_toArray, List.set_cons_zero, List.set_cons_succ])
          first | refine wpB_skip 5 rfl (by kernel_rfl) (by kernel_rfl) (by kernel_rfl) (by rfl) ?_ | (refine wpB_text 5 (v := ?_) rfl (by kernel_rfl) (by kernel_rfl) (by kernel_rfl) (by rfl) (fun W hW => ?_) ?_; rotate_left; (obtain ⟨k1, k2, k3, k4, k5⟩ := hW;  go_simp; refine comes_v ?_; exact ⟨k1, k2, k3, k4, k5⟩))
          (try simp only [Act.put, List.setIfInBounds_toArray, List.set_cons_zero, List.set_cons_succ])
          first | refine wpB_skip 6 rfl (by kernel_rfl) (by kernel_rfl) (by kernel_rfl) (by rfl) ?_ | (refine wpB_text 6 (v := ?_) rfl (by kernel_rfl) (by kernel_rfl) (by kernel_rfl) (by rfl) (fun W hW => ?_) ?_; rotate_left; (obtain ⟨k1, k2, k3, k4, k5⟩ := hW;  go_simp; refine comes_v ?_; exact ⟨k1, k2, k3, k4, k5⟩))
          (try simp only [Act.put, List.setIfInBounds_toArray, List.set_cons_zero, List.set_cons_succ])
          first | refine wpB_skip 7 rfl (by kernel_rfl) (by kernel_rfl) (by kernel_rfl) (by rfl) ?_ | (refine wpB_text 7 (v := ?_) rfl (by kernel_rfl) (by kernel_rfl) (by kernel_rfl) (by rfl) (fun W hW => ?_) ?_; rotate_left; (obtain ⟨k1, k2, k3, k4, k5⟩ := hW;  go_simp; refine comes_v ?_; exact ⟨k1, k2, k3, k4, k5⟩))
          (try simp only [Act.put, List.setIfInBounds_toArray, List.set_cons_zero, List.set_cons_succ])
          first | refine wpB_skip 8 rfl (by kernel_rfl) (by kernel_rfl) (by kernel_rfl) (by rfl) ?_ | (refine wpB_text 8 (v := .bool false) rfl (by kernel_rfl) (by kernel_rfl) (by kernel_rfl) (by rfl) (fun W hW => ?_) ?_; (obtain ⟨k1, k2, k3, k4, k5⟩ := hW;  go_simp; exact comes_c ( EQ.out _) (fun wn hbn => KP.out _ _ ⟨k1, k2, k3, k4, k5⟩ hbn)))
          (try simp only [Act.put, List.setIfInBounds_toArray, List.set_cons_zero, List.set_cons_succ])
          first | refine wpB_skip 9 rfl (by kernel_rfl) (by kernel_rfl) (by kernel_rfl) (by rfl) ?_ | (refine wpB_text 9 (v := ?_) rfl (by kernel_rfl) (by kernel_rfl) (by kernel_rfl) (by rfl) (fun W hW => ?_) ?_; rotate_left; (obtain ⟨k1, k2, k3, k4, k5⟩ := hW;  go_simp; refine comes_v ?_; exact ⟨k1, k2, k3, k4, k5⟩))
          (try simp only [Act.put, List.setIfInBounds_toArray, List.set_cons_zero, List.set_cons_succ])
          refine wpB_done (by kernel_rfl) ?_ _
          intro W hW; obtain ⟨k1, k2, k3, k4, k5⟩ := hW
          go_wp2_with fail
          go_ret
          exact ⟨ret_bool (decide_eq_false hne.out).symm, k1⟩
      · have hkn : k = n := by omega
        subst hkn
        go_wp2_with fail
        go_ret
        exact ⟨ret_bool (decide_eq_true ((eq_at (by have := HN.out; have := HL.out; omega)).2 (fun i p q hp hq => hS.out i p q (by have := (List.getElem?_eq_some_iff.1 hp).1; have := HN.out; omega) hp hq))).symm, hBel⟩
  · have hne : ¬ l = m := fun e => hl (by rw [e])
    have HH : decide (((l.length : Nat) : Int) = ((m.length : Nat) : Int)) = false := by simp; omega
    rw [decide_eq_false hne]
    go_enter Try.func19, Try.ntmps19
    go_wp2_with fail
    go_ret
    exact ⟨rfl, Below.refl _ _⟩
end Go.Proofs.Ytheddoinnakneaa
/- contract: the model's test of a polygon -/
namespace Go.Proofs.Ytheddoinnakneaa
open Go.ChangeShapes Go.WideShapes Go.ChangeAt Go.RowKit Go.Joins
set_option linter.unusedVariables false
set_option linter.unusedSimpArgs false
set_option maxRecDepth 4000
/-- corner number i, round and round -/
def vx (l : List (Int × Int)) (i : Nat) : Int × Int := (l[i % l.length]?).getD (0, 0)
def isPg (p : Int × Int) : Bool := isPegB p.1 p.2
def twP (a b c : Int × Int) : Int := twI a.1 a.2 b.1 b.2 c.1 c.2
def meP (a b c d : Int × Int) : Bool := meetB a.1 a.2 b.1 b.2 c.1 c.2 d.1 d.2
/-- what a polygon is -/
structure Good (l : List (Int × Int)) : Prop where
  few : 3 ≤ l.length ∧ l.length ≤ 10
  pegs : ∀ i, i < l.length → isPg (vx l i) = true
  diff : ∀ i j, j < i → i < l.length → vx l i ≠ vx l j
  turn : ∀ i, i < l.length → twP (vx l i) (vx l (i + 1)) (vx l (i + 2)) ≠ 0
  apart : ∀ i k, i + 2 ≤ k → k < l.length → k + 1 < l.length + i → meP (vx l i) (vx l (i + 1)) (vx l k) (vx l (k + 1)) = false
noncomputable def goodB (l : List (Int × Int)) : Bool := @decide (Good l) (Classical.propDecidable _)
theorem goodB_true {l : List (Int × Int)} (h : Good l) : goodB l = true := by unfold goodB; exact @decide_eq_true _ (Classical.propDecidable _) h
theorem goodB_false {l : List (Int × Int)} (h : ¬ Good l) : goodB l = false := by unfold goodB; exact @decide_eq_false _ (Classical.propDecidable _) h
theorem vx_get {l : List (Int × Int)} {i : Nat} (h : i < l.length) : l[i]? = some (vx l i) := by
  unfold vx; rw [Nat.mod_eq_of_lt h, List.getElem?_eq_getElem h]; rfl
theorem vx_mod {l : List (Int × Int)} (i : Nat) (h : 0 < l.length) : l[i % l.length]? = some (vx l i) := by
  unfold vx; rw [List.getElem?_eq_getElem (Nat.mod_lt _ h)]; rfl
/-- the first k corners are different pegs -/
def Fine (l : List (Int × Int)) (k : Nat) : Prop := ∀ i, i < k → isPg (vx l i) = true ∧ ∀ j, j < i → vx l i ≠ vx l j
/-- the corners below k turn, and their lines meet none behind -/
def Apart (l : List (Int × Int)) (m : Nat) : Prop := ∀ i, i < m → twP (vx l i) (vx l (i + 1)) (vx l (i + 2)) ≠ 0 ∧ ∀ k, i + 2 ≤ k → k < l.length → k + 1 < l.length + i → meP (vx l i) (vx l (i + 1)) (vx l k) (vx l (k + 1)) = false
def Turns (l : List (Int × Int)) (k : Nat) : Prop := twP (vx l k) (vx l (k + 1)) (vx l (k + 2)) ≠ 0
theorem vx_per (l : List (Int × Int)) (i : Nat) : vx l (i % l.length) = vx l i := by unfold vx; rw [Nat.mod_mod]
end Go.Proofs.Ytheddoinnakneaa
/- plain mathematics: sums around a polygon -/
namespace Go.Proofs.Ytheddoinnakneaa
open Go.ChangeShapes Go.WideShapes Go.ChangeAt Go.RowKit Go.Joins
set_option linter.unusedVariables false
set_option linter.unusedSimpArgs false
set_option maxRecDepth 4000
def cr (p q : Int × Int) : Int := p.1 * q.2 - q.1 * p.2
/-- f at corner 0, .., at corner k - 1, together -/
def sumTo (f : Nat → Int) : Nat → Int
  | 0 => 0
  | k + 1 => sumTo f k + f k
theorem sumTo_bd {f : Nat → Int} {m : Int} : ∀ (k : Nat), (∀ i, i < k → -m ≤ f i ∧ f i ≤ m) → -(m * k) ≤ sumTo f k ∧ sumTo f k ≤ m * k
  | 0, _ => by simp [sumTo]
  | k + 1, h => by
    have ih := sumTo_bd k (fun i hi => h i (by omega))
    have hk := h k (by omega)
    have e : m * ((k + 1 : Nat) : Int) = m * (k : Int) + m := by rw [Int.natCast_add, Int.mul_add]; simp
    rw [e]
    unfold sumTo
    omega
theorem sumTo_same {f g : Nat → Int} : ∀ (k : Nat), (∀ i, i < k → f i = g i) → sumTo f k = sumTo g k
  | 0, _ => rfl
  | k + 1, h => by unfold sumTo; rw [sumTo_same k (fun i hi => h i (by omega)), h k (by omega)]
def Sh (l : List (Int × Int)) (k : Nat) : Int := sumTo (fun i => cr (vx l i) (vx l (i + 1))) k
/-- twice the area -/
def areaN (l : List (Int × Int)) : Int := Sh l l.length
/-- the triangles from corner 0 to those below corner i, together -/
def fanTo (l : List (Int × Int)) (i : Nat) : Int := Sh l (i - 1) + cr (vx l (i - 1)) (vx l 0)
theorem fan_two (l : List (Int × Int)) : fanTo l 2 = 0 := by
  unfold fanTo Sh sumTo sumTo cr; simp; omega
theorem fan_step (l : List (Int × Int)) (i : Nat) (h : 2 ≤ i) : fanTo l (i + 1) = fanTo l i + twP (vx l 0) (vx l (i - 1)) (vx l i) := by
  obtain ⟨j, rfl⟩ : ∃ j, i = j + 1 := ⟨i - 1, by omega⟩
  have e1 : j + 1 + 1 - 1 = j + 1 := by omega
  have e2 : j + 1 - 1 = j := by omega
  unfold fanTo
  rw [e1, e2]
  have : Sh l (j + 1) = Sh l j + cr (vx l j) (vx l (j + 1)) := rfl
  rw [this]
  unfold twP twI cr
  grind
theorem fan_all (l : List (Int × Int)) (h : 3 ≤ l.length) : fanTo l l.length = areaN l := by
  unfold areaN fanTo
  obtain ⟨j, hj⟩ : ∃ j, l.length = j + 1 := ⟨l.length - 1, by omega⟩
  rw [hj]
  have e : j + 1 - 1 = j := by omega
  rw [e]
  have h1 : Sh l (j + 1) = Sh l j + cr (vx l j) (vx l (j + 1)) := rfl
  have h2 : vx l (j + 1) = vx l 0 := by rw [← hj]; unfold vx; simp
  rw [h1, h2]
theorem cr_bd {p q : Int × Int} (hp : isPg p = true) (hq : isPg q = true) : -3200 ≤ cr p q ∧ cr p q ≤ 3200 := by
  unfold isPg isPegB at hp hq
  simp only [Bool.and_eq_true, decide_eq_true_eq] at hp hq
  have h1 := mul_bd (x := p.1) (y := q.2) (m := 40) (n := 40) (by omega) (by omega) (by omega) (by omega)
  have h2 := mul_bd (x := q.1) (y := p.2) (m := 40) (n := 40) (by omega) (by omega) (by omega) (by omega)
  unfold cr
  omega
theorem vx_pg {l : List (Int × Int)} (h : ∀ i, i < l.length → isPg (vx l i) = true) (h0 : 0 < l.length) (i : Nat) : isPg (vx l i) = true := by
  rw [← vx_per]; exact h _ (Nat.mod_lt _ h0)
theorem good_pos {l : List (Int × Int)} (h : Good l) : 0 < l.length := by have := h.few.1; omega
theorem sh_bd {l : List (Int × Int)} (h : ∀ i, i < l.length → isPg (vx l i) = true) (h0 : 0 < l.length) (k : Nat) : -(3200 * (k : Int)) ≤ Sh l k ∧ Sh l k ≤ 3200 * (k : Int) :=
  sumTo_bd k fun i _ => cr_bd (vx_pg h h0 i) (vx_pg h h0 (i + 1))
theorem fan_bdW {l : List (Int × Int)} (h : ∀ i, i < l.length → isPg (vx l i) = true) (h0 : 0 < l.length) (i : Nat) (hi : i ≤ 60) : -400000 ≤ fanTo l i ∧ fanTo l i ≤ 400000 := by
  have h1 := sh_bd h h0 (i - 1)
  have h2 := cr_bd (vx_pg h h0 (i - 1)) (vx_pg h h0 0)
  unfold fanTo
  omega
theorem fan_bd {l : List (Int × Int)} (h : ∀ i, i < l.length → isPg (vx l i) = true) (h0 : 0 < l.length) (i : Nat) (hi : i ≤ 10) : -40000 ≤ fanTo l i ∧ fanTo l i ≤ 40000 := by
  have h1 := sh_bd h h0 (i - 1)
  have h2 := cr_bd (vx_pg h h0 (i - 1)) (vx_pg h h0 0)
  unfold fanTo
  omega
/-- how many steps the lines have together -/
def Rn (l : List (Int × Int)) (k : Nat) : Int := sumTo (fun i => stepN (vx l i).1 (vx l i).2 (vx l (i + 1)).1 (vx l (i + 1)).2) k
def onN (l : List (Int × Int)) : Int := Rn l l.length
theorem rn_bd {l : List (Int × Int)} (h : ∀ i, i < l.length → isPg (vx l i) = true) (h0 : 0 < l.length) (k : Nat) : -(160 * (k : Int)) ≤ Rn l k ∧ Rn l k ≤ 160 * (k : Int) :=
  sumTo_bd k fun i _ => by
    have := stepN_bd (a1 := (vx l i).1) (a2 := (vx l i).2) (b1 := (vx l (i + 1)).1) (b2 := (vx l (i + 1)).2) (vx_pg h h0 i) (vx_pg h h0 (i + 1))
    omega
/-- the told number of points inside -/
def insN (l : List (Int × Int)) : Int := ((areaN l).natAbs + 2 - onN l).tdiv 2
end Go.Proofs.Ytheddoinnakneaa
/- what a call may read of a list of points -/
namespace Go.Proofs.Ytheddoinnakneaa
open Go.ChangeShapes Go.WideShapes Go.ChangeAt Go.RowKit Go.Joins
set_option linter.unusedVariables false
set_option linter.unusedSimpArgs false
set_option maxRecDepth 4000
theorem bt_keep {w W W' : World} (h : Below w.heap.size w W) (hb : Below W.heap.size W W') : Below w.heap.size w W' := h.trans (hb.mono h.size)
/-- what a call may read of a list of points -/
def Pts (w : World) (b off n : Nat) (l : List (Int × Int)) : Prop :=
  ∀ W, Below w.heap.size w W → ∀ i, i < n → W.cell? ⟨b, off + i * 2, none⟩ = some (.int .i64 (vx l i).1) ∧ W.cell? ⟨b, off + i * 2 + 1, none⟩ = some (.int .i64 (vx l i).2)
theorem pts_of {w : World} {A : Option Addr} {l : List (Int × Int)} (h0 : 0 < l.length) (hR : Rd w w.heap.size A l) : ∃ b off, A = some ⟨b, off, none⟩ ∧ b < w.heap.size ∧ Hid (Pts w b off l.length l) := by
  obtain ⟨b, off, e, hb, hc⟩ := hR h0
  refine ⟨b, off, e, hb, Lib.hid fun W hW i hi => ?_⟩
  have h1 := hc i _ (vx_get hi)
  exact ⟨(hW.cell (p := ⟨b, off + i * 2, none⟩) hb).trans h1.1, (hW.cell (p := ⟨b, off + i * 2 + 1, none⟩) hb).trans h1.2⟩
theorem pgs_sz {l : List (Int × Int)} (h : ∀ i, i < l.length → isPg (vx l i) = true) (i : Nat) (h0 : 0 < l.length) : Sz (vx l i).1 (vx l i).2 := sz_of (vx_pg h h0 i)
end Go.Proofs.Ytheddoinnakneaa
/- rows of points that a call appends to; the model's list told backwards -/
namespace Go.Proofs.Ytheddoinnakneaa
open Go.ChangeShapes Go.WideShapes Go.ChangeAt Go.RowKit Go.Joins
set_option linter.unusedVariables false
set_option linter.unusedSimpArgs false
set_option maxRecDepth 4000
/-- points as cells -/
def flat (l : List (Int × Int)) : List Value := l.flatMap fun p => [.int .i64 p.1, .int .i64 p.2]
theorem flat_nil : flat [] = [] := rfl
theorem flat_snoc (l : List (Int × Int)) (p : Int × Int) : flat (l ++ [p]) = flat l ++ [.int .i64 p.1, .int .i64 p.2] := by
  unfold flat; rw [List.flatMap_append]; rfl
theorem flat_get (l : List (Int × Int)) : ∀ i, i < l.length → (flat l)[i * 2]? = some (.int .i64 (pt l i).1) ∧ (flat l)[i * 2 + 1]? = some (.int .i64 (pt l i).2) := by
  induction l with
  | nil => intro i h; simp at h
  | cons p l ih =>
    intro i hi
    have e : flat (p :: l) = [.int .i64 p.1, .int .i64 p.2] ++ flat l := rfl
    rw [e]
    cases i with
    | zero => exact ⟨rfl, rfl⟩
    | succ i =>
      have h := ih i (by simpa using hi)
      have e2 : pt (p :: l) (i + 1) = pt l i := rfl
      rw [e2, show (i + 1) * 2 = 2 + i * 2 by omega, List.getElem?_append_right (by simp), List.getElem?_append_right (by simp; omega)]
      simpa [show 2 + i * 2 - 2 = i * 2 by omega, show 2 + i * 2 + 1 - 2 = i * 2 + 1 by omega] using h
/-- what a row of the call's own reads as -/
theorem rw_of_own {w : World} {base : Nat} {v : Value} {l : List (Int × Int)} (h : w.ownsRow base 56 2 v l.length (flat l)) :
    ∃ A c, v = .slice A l.length c ∧ l.length ≤ c ∧ c ≤ maxLen ∧ Rw w base w.heap.size A l.length (pt l) := by
  have h0 := h
  obtain ⟨h1, h2⟩ := h
  rcases h2 with ⟨hv, hn⟩ | ⟨g, cap, cur, hv, hg, hh, hc, hm, hs, ht⟩
  · exact ⟨none, 0, by rw [hv, hn], by omega, by simp [maxLen], fun hp => absurd hp (by omega)⟩
  · subst hv
    refine ⟨some ⟨g, 0, none⟩, cap, rfl, hc, hm, fun hp => ⟨g, 0, rfl, hg, (h0.lt g rfl).2, fun i hi => ?_⟩⟩
    have hf := flat_get l i hi
    rw [Nat.zero_add]
    exact ⟨⟨(h0.cellAt (i * 2) (by omega)).trans hf.1, (h0.cellAt (i * 2 + 1) (by omega)).trans hf.2⟩, h0.frozenAt _, h0.frozenAt _⟩
/-- the first k of the points f 0, f 1, .. -/
def firsts (f : Nat → Int × Int) (k : Nat) : List (Int × Int) := (List.range k).map f
theorem firsts_len (f : Nat → Int × Int) (k : Nat) : (firsts f k).length = k := by unfold firsts; simp
theorem firsts_succ (f : Nat → Int × Int) (k : Nat) : firsts f (k + 1) = firsts f k ++ [f k] := by unfold firsts; rw [List.range_succ, List.map_append]; rfl
theorem firsts_pt (f : Nat → Int × Int) (k i : Nat) (h : i < k) : pt (firsts f k) i = f i := by
  unfold pt firsts; rw [List.getElem?_map, List.getElem?_range h]; rfl
theorem firsts_get (f : Nat → Int × Int) (k i : Nat) (h : i < k) : (firsts f k)[i]? = some (f i) := by
  unfold firsts; rw [List.getElem?_map, List.getElem?_range h]; rfl
/-- a row that has grown by append: the first k points -/
def Row (w : World) (base : Nat) (v : Value) (f : Nat → Int × Int) (k : Nat) : Prop := w.ownsRow base 56 2 v k (flat (firsts f k))
theorem row_nil (w : World) (base : Nat) (f : Nat → Int × Int) : Row w base (.slice none 0 0) f 0 := World.ownsRow_nil w base _ _
theorem row_step {w : World} {base : Nat} {v : Value} {f : Nat → Int × Int} {k : Nat} (h : w.ownsRow base 56 2 v (k + 1) (flat (firsts f k) ++ [.int .i64 (f k).1, .int .i64 (f k).2])) : Row w base v f (k + 1) := by
  unfold Row; rw [firsts_succ, flat_snoc]; exact h
theorem row_out {w : World} {base : Nat} {v : Value} {f : Nat → Int × Int} {k : Nat} (h : Row w base v f k) :
    ∃ A c, v = .slice A k c ∧ k ≤ c ∧ c ≤ maxLen ∧ Rw w base w.heap.size A k f := by
  have h' : w.ownsRow base 56 2 v (firsts f k).length (flat (firsts f k)) := by rw [firsts_len]; exact h
  obtain ⟨A, c, e, h1, h2, h3⟩ := rw_of_own h'
  rw [firsts_len] at e h1 h3
  exact ⟨A, c, e, h1, h2, rw_same h3 fun i hi => firsts_pt f k i hi⟩
theorem row_alloc {w : World} {base : Nat} {v : Value} {f : Nat → Int × Int} {k : Nat} (h : Row w base v f k) (o : Obj) : Row (w.alloc o) base v f k := World.ownsRow.alloc h o
theorem row_below {w w' : World} {base B : Nat} {v : Value} {f : Nat → Int × Int} {k : Nat} (h : Row w base v f k) (hb : Below B w w') (hB : w.heap.size ≤ B) : Row w' base v f k := by
  obtain ⟨h1, h2⟩ := h
  rcases h2 with h2 | ⟨g, cap, cur, hv, hg, hh, r⟩
  · exact ⟨h1, .inl h2⟩
  · have hl := World.ownsRow.lt (w := w) (base := base) (e := 56) (size := 2) (v := v) (n := k) (xs := flat (firsts f k)) ⟨h1, .inr ⟨g, cap, cur, hv, hg, hh, r⟩⟩ g (by rw [hv]; rfl)
    exact ⟨h1, .inr ⟨g, cap, cur, hv, hg, (hb.block g (by omega)).trans hh, r⟩⟩
/-- behind an append -/
theorem row_push {w W w1 : World} {v v' : Value} {f : Nat → Int × Int} {k : Nat} (hB : Below w.heap.size w W) (hr : Row W w.heap.size v f k)
    (ho : w1.ownsRow w.heap.size 56 2 v' (k + 1) (flat (firsts f k) ++ [.int .i64 (f k).1, .int .i64 (f k).2])) (hg : W.grownBy w1 v.ownBlock) : Row w1 w.heap.size v' f (k + 1) ∧ Below w.heap.size w w1 :=
  ⟨row_step ho, hB.grown hg hB.size fun g hgk => (World.ownsRow.lt hr g hgk).1⟩
theorem two_cells {w : World} {g : Nat} {x y : Value} (h1 : w.cell? ⟨g, 0, none⟩ = some x) (h2 : w.cell? ⟨g, 1, none⟩ = some y) : ∀ j u, [x, y][j]? = some u → w.cell? ((⟨g, 0, none⟩ : Addr).add j) = some u := by
  intro j u hj
  match j, hj with
  | 0, hj => simp at hj; subst hj; exact h1
  | 1, hj => simp at hj; subst hj; exact h2
theorem two_one (x y : Int) : ∀ u ∈ [Value.int .i64 x, Value.int .i64 y], u.oneCell' = true := by
  intro u hu; simp at hu; rcases hu with rfl | rfl <;> rfl
/-- what a call returns that gives a list of points and says whether there is one -/
def RetL (w : World) (m : List (Int × Int)) (b : Bool) (e : Ending) (w' : World) : Prop :=
  ∃ A c, e = .returned (.tuple #[.slice A m.length c, .bool b]) ∧ m.length ≤ c ∧ c ≤ maxLen ∧ Below w.heap.size w w' ∧ Rw w' w.heap.size w'.heap.size A m.length (pt m)
/-- what a call returns that gives a list of points -/
def RetP (w : World) (m : List (Int × Int)) (e : Ending) (w' : World) : Prop :=
  ∃ A c, e = .returned (.slice A m.length c) ∧ m.length ≤ c ∧ c ≤ maxLen ∧ Below w.heap.size w w' ∧ Rw w' w.heap.size w'.heap.size A m.length (pt m)
theorem retP_row {w w' : World} {v : Value} {f : Nat → Int × Int} {k : Nat} (h : Row w' w.heap.size v f k) (hb : Below w.heap.size w w') : RetP w (firsts f k) (.returned v) w' := by
  obtain ⟨A, c, rfl, h1, h2, h3⟩ := row_out h
  refine ⟨A, c, by rw [firsts_len], by rw [firsts_len]; exact h1, h2, hb, ?_⟩
  rw [firsts_len]
  exact rw_same h3 fun i hi => (firsts_pt f k i hi).symm
theorem retL_nil {w w' : World} (hb : Below w.heap.size w w') : RetL w [] false (.returned (.tuple #[.slice none 0 0, .bool false])) w' :=
  ⟨none, 0, rfl, by simp, by simp [maxLen], hb, fun h => absurd h (by simp)⟩
theorem retL_of_P {w w1 w2 : World} {m : List (Int × Int)} {A : Option Addr} {c : Nat} (hb1 : Below w.heap.size w w1) (h1 : m.length ≤ c) (h2 : c ≤ maxLen) (hb2 : Below w1.heap.size w1 w2) (h : Rw w2 w1.heap.size w2.heap.size A m.length (pt m)) :
    RetL w m true (.returned (.tuple #[.slice A m.length c, .bool true])) w2 :=
  ⟨A, c, rfl, h1, h2, hb1.trans (hb2.mono hb1.size), rw_more h hb1.size (Nat.le_refl _)⟩
theorem retL_up {w w1 w2 : World} {m : List (Int × Int)} {b : Bool} {e : Ending} (hb1 : Below w.heap.size w w1) (h : RetL w1 m b e w2) : RetL w m b e w2 := by
  obtain ⟨A, c, e, h1, h2, h3, h4⟩ := h
  exact ⟨A, c, e, h1, h2, hb1.trans (h3.mono hb1.size), rw_more h4 hb1.size (Nat.le_refl _)⟩
end Go.Proofs.Ytheddoinnakneaa

