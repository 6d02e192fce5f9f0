/- joined: A B C D L E F R G H I Ms N O Q S Ml M T U Sc Hm V W -/
import Derived.Test.YtheddoinnakneaaRows
import Derived.WalkKit
import Derived.ProofKit
import Derived.OpenShut
import Derived.Outline
import Derived.Lib.SmallJoins
import Derived.Below
import Derived.Carry
import Derived.Lib.Hide
import Derived.OrdersHeld
import Derived.LoopTactic
import Derived.Laws.MakeOwn
import Derived.OwnWalk
import Derived.Deep.LoopGhost
import Derived.Deep.QuietTactic
import Derived.BigQuiet
import Derived.StillTailTactics
/- contracts of the small functions over pegs -/
namespace Go.Proofs.Ytheddoinnakneaa
open Go.ChangeShapes Go.WideShapes Go.ChangeAt Go.RowKit Go.Joins
set_option linter.unusedVariables false

theorem l1In_any (n lo hi : Int) (w : World) :
    Calls Try.prog 58 #[.int .i64 n, .int .i64 lo, .int .i64 hi] w fun e w' => e = .returned (.bool (decide (lo ≤ n) && decide (n ≤ hi))) ∧ w = w' := by
  by_cases h1 : lo ≤ n <;> by_cases h2 : n ≤ hi
  all_goals
    go_enter Try.func58, Try.ntmps58
    go_wp2
    go_ret
    exact ⟨by simp [h1, h2], rfl⟩
theorem isOfSize_any (n m : Int) (w : World) (hm : 0 ≤ m) (hm' : m ≤ 1000) :
    Calls Try.prog 111 #[.int .i64 n, .int .i64 m] w fun e w' => e = .returned (.bool (decide (-m ≤ n) && decide (n ≤ m))) ∧ w = w' := by
  by_cases h1 : -m ≤ n <;> by_cases h2 : n ≤ m
  all_goals
    go_enter Try.func111, Try.ntmps111
    go_wp2
    go_ret
    exact ⟨by simp [h1, h2], rfl⟩
end Go.Proofs.Ytheddoinnakneaa
/- contracts of the small functions over pegs -/
namespace Go.Proofs.Ytheddoinnakneaa
open Go.ChangeShapes Go.WideShapes Go.ChangeAt Go.RowKit Go.Joins
set_option linter.unusedVariables false
theorem bcell {W w1 : World} (hb : Below W.heap.size W w1) : (∀ b o, b < W.heap.size → w1.cell? ⟨b, o, none⟩ = W.cell? ⟨b, o, none⟩) ∧ (∀ b o, b < W.heap.size → w1.frozen? ⟨b, o, none⟩ = W.frozen? ⟨b, o, none⟩) :=
  ⟨fun b o h => hb.cell (p := ⟨b, o, none⟩) h, fun b o h => hb.frozen (p := ⟨b, o, none⟩) h⟩
/-- a peg's two numbers are of size 40 at most -/
def isPegB (x y : Int) : Bool := decide (-40 ≤ x) && decide (x ≤ 40) && (decide (-40 ≤ y) && decide (y ≤ 40))
theorem pgIs_any (x y : Int) (w : World) :
    Calls Try.prog 83 #[.agg #[.int .i64 x, .int .i64 y]] w fun e w' => e = .returned (.bool (isPegB x y)) ∧ Below w.heap.size w w' := by
  by_cases h1 : (decide (-40 ≤ x) && decide (x ≤ 40)) = true
  all_goals
    go_enter Try.func83, Try.ntmps83
    go_wp2_with (go_at_call 58; refine (l1In_any _ _ _ _).mono ?_; rintro e w' ⟨rfl, rfl⟩)
    go_ret
    exact ⟨by simp [isPegB, h1], by repeat (first | exact Below.refl _ _ | apply Below.drew | (apply Below.alloc; rotate_left; simp))⟩
end Go.Proofs.Ytheddoinnakneaa
/- contracts of the small functions over pegs: turns, points on lines -/
namespace Go.Proofs.Ytheddoinnakneaa
open Go.ChangeShapes Go.WideShapes Go.ChangeAt Go.RowKit Go.Joins
set_option linter.unusedVariables false
set_option linter.unusedSimpArgs false
set_option maxRecDepth 4000
theorem mul_bd {x y m n : Int} (h1 : -m ≤ x) (h2 : x ≤ m) (h3 : -n ≤ y) (h4 : y ≤ n) : -(m * n) ≤ x * y ∧ x * y ≤ m * n := by
  have hm : 0 ≤ m := by omega
  have hn : 0 ≤ n := by omega
  have a1 := Int.mul_nonneg (show 0 ≤ m - x by omega) (show 0 ≤ n - y by omega)
  have a2 := Int.mul_nonneg (show 0 ≤ m + x by omega) (show 0 ≤ n + y by omega)
  have a3 := Int.mul_nonneg (show 0 ≤ m - x by omega) (show 0 ≤ n + y by omega)
  have a4 := Int.mul_nonneg (show 0 ≤ m + x by omega) (show 0 ≤ n - y by omega)
  constructor <;> grind
/-- both numbers of a point are of size 100000 at most -/
def Sz (x y : Int) : Prop := -100000 ≤ x ∧ x ≤ 100000 ∧ -100000 ≤ y ∧ y ≤ 100000
theorem prod_bd {a b c d : Int} (ha : -100000 ≤ a ∧ a ≤ 100000) (hb : -100000 ≤ b ∧ b ≤ 100000) (hc : -100000 ≤ c ∧ c ≤ 100000) (hd : -100000 ≤ d ∧ d ≤ 100000) :
    -40000000000 ≤ (a - b) * (c - d) ∧ (a - b) * (c - d) ≤ 40000000000 :=
  mul_bd (m := 200000) (n := 200000) (by omega) (by omega) (by omega) (by omega)
/-- twice the area of a triangle, greater than 0 to the left -/
def twI (a1 a2 b1 b2 c1 c2 : Int) : Int := (b1 - a1) * (c2 - a2) - (b2 - a2) * (c1 - a1)
theorem ret_int {k : IntKind} {a b : Int} (h : a = b) : Ending.returned (.int k a) = .returned (.int k b) := by rw [h]
theorem ret_bool {a b : Bool} (h : a = b) : Ending.returned (.bool a) = .returned (.bool b) := by rw [h]
theorem pgTurn_any (a1 a2 b1 b2 c1 c2 : Int) (w : World) (ha : Sz a1 a2) (hb : Sz b1 b2) (hc : Sz c1 c2) :
    Calls Try.prog 84 #[.agg #[.int .i64 a1, .int .i64 a2], .agg #[.int .i64 b1, .int .i64 b2], .agg #[.int .i64 c1, .int .i64 c2]] w fun e w' => e = .returned (.int .i64 (twI a1 a2 b1 b2 c1 c2)) ∧ Below w.heap.size w w' := by
  obtain ⟨x1, x2, x3, x4⟩ := ha
  obtain ⟨x5, x6, x7, x8⟩ := hb
  obtain ⟨x9, x10, x11, x12⟩ := hc
  obtain ⟨p1, p2⟩ := prod_bd (a := b1) (b := a1) (c := c2) (d := a2) (by omega) (by omega) (by omega) (by omega)
  obtain ⟨p3, p4⟩ := prod_bd (a := b2) (b := a2) (c := c1) (d := a1) (by omega) (by omega) (by omega) (by omega)
  go_enter Try.func84, Try.ntmps84
  go_wp2
  go_ret
  exact ⟨ret_int (by unfold twI; omega), (by repeat (first | exact Below.refl _ _ | assumption | apply Below.drew | refine Below.alloc ?_ (by simp <;> omega) _))⟩
theorem twiceThree_any (a1 a2 b1 b2 c1 c2 : Int) (w : World) (ha : Sz a1 a2) (hb : Sz b1 b2) (hc : Sz c1 c2) :
    Calls Try.prog 124 #[.agg #[.int .i64 a1, .int .i64 a2], .agg #[.int .i64 b1, .int .i64 b2], .agg #[.int .i64 c1, .int .i64 c2]] w fun e w' => e = .returned (.int .i64 (twI a1 a2 b1 b2 c1 c2)) ∧ Below w.heap.size w w' := by
  obtain ⟨x1, x2, x3, x4⟩ := ha
  obtain ⟨x5, x6, x7, x8⟩ := hb
  obtain ⟨x9, x10, x11, x12⟩ := hc
  obtain ⟨p1, p2⟩ := prod_bd (a := b1) (b := a1) (c := c2) (d := a2) (by omega) (by omega) (by omega) (by omega)
  obtain ⟨p3, p4⟩ := prod_bd (a := c1) (b := a1) (c := b2) (d := a2) (by omega) (by omega) (by omega) (by omega)
  go_enter Try.func124, Try.ntmps124
  go_wp2
  go_ret
  exact ⟨ret_int (by unfold twI; rw [Int.mul_comm (c1 - a1)]), (by repeat (first | exact Below.refl _ _ | assumption | apply Below.drew | refine Below.alloc ?_ (by simp <;> omega) _))⟩
end Go.Proofs.Ytheddoinnakneaa
/- contracts: a point of the laws' package made one of the program's; IsPeg on both sides -/
namespace Go.Proofs.Ytheddoinnakneaa
open Go.ChangeShapes Go.WideShapes Go.ChangeAt Go.RowKit Go.Joins
set_option linter.unusedVariables false
set_option linter.unusedSimpArgs false
set_option maxRecDepth 4000
theorem toPeg_any (a1 a2 : Int) (w : World) :
    Calls Try.prog 54 #[.agg #[.int .i64 a1, .int .i64 a2]] w fun e w' => e = .returned (.agg #[.int .i64 a1, .int .i64 a2]) ∧ Below w.heap.size w w' := by
  go_enter Try.func54, Try.ntmps54
  go_wp2
  exact bodyPost_ret (v := .agg #[.int .i64 a1, .int .i64 a2]) (by simp [results, Try.results54, go_sem]) rfl ⟨rfl, (by repeat (first | exact Below.refl _ _ | assumption | apply Below.drew | refine Below.alloc ?_ (by simp <;> omega) _))⟩
theorem implIsPeg_any (x1 x2 : Int) (w : World) :
    Calls Try.prog 123 #[.agg #[.int .i64 x1, .int .i64 x2]] w fun e w' => e = .returned (.bool (isPegB x1 x2)) ∧ Below w.heap.size w w' := by
  by_cases h1 : (decide (-40 ≤ x1) && decide (x1 ≤ 40)) = true
  all_goals
    go_enter Try.func123, Try.ntmps123
    go_wp2_with (go_at_call 111; refine (isOfSize_any _ _ _ (by omega) (by omega)).mono ?_; rintro e w' ⟨rfl, rfl⟩)
    go_ret
    exact ⟨by simp [isPegB, h1], (by repeat (first | exact Below.refl _ _ | assumption | apply Below.drew | refine Below.alloc ?_ (by simp <;> omega) _))⟩
end Go.Proofs.Ytheddoinnakneaa
/- the last step of each law: it returned true, and nothing that was there has turned: so the arguments read as they did -/
namespace Go.Proofs.Ytheddoinnakneaa
open Go.ChangeShapes Go.WideShapes Go.ChangeAt Go.RowKit Go.Joins
set_option linter.unusedVariables false
set_option linter.unusedSimpArgs false
set_option maxRecDepth 4000
theorem own : ownKnob Try.prog.godebug = none := by kernel_rfl
theorem laidOut : laidOutB Try.prog = true := by kernel_rfl
section
variable {H : Type} {enc : TypeId × Value → H}
theorem trods_stay {P : Program} (hl : laidOutB P = true) {W W' : World} (hb : Below W.heap.size W W') (ts : List TypeId) : ∀ (vs : List Value) (ds : List (DataW H)) (ps : List MemPlace), (∀ t ∈ ts, P.readableRec t = true ∧ t < P.types.size) →
    DataW.TrodAll enc P W 0 (fun _ => true) true ts vs ds ps → (∀ x ∈ ps, x.block < W.heap.size) →
    DataW.TrodAll enc P W' 0 (fun b => decide (b < W.heap.size)) true ts vs ds ps := by
  induction ts with
  | nil =>
    intro vs ds ps _ h _
    cases vs with
    | nil => cases ds with
      | nil => exact h
      | cons d ds => exact h.elim
    | cons v vs => exact h.elim
  | cons t ts ih =>
    intro vs ds ps ht h hl'
    cases vs with
    | nil => exact h.elim
    | cons v vs => cases ds with
      | nil => exact h.elim
      | cons d ds =>
        obtain ⟨p, q, h1, h2, rfl⟩ := h
        have hf := ht t (List.mem_cons_self ..)
        exact ⟨p, q, Below.trod hl hf.1 hf.2 h1 hb (fun x hx => hl' x (List.mem_append.2 (Or.inl hx))),
          ih vs ds q (fun t' h' => ht t' (List.mem_cons_of_mem _ h')) h2 (fun x hx => hl' x (List.mem_append.2 (Or.inr hx))), rfl⟩
theorem law_done {f : Func} {s : ChangeSpec} {W W' : World} {args : Array Value} {ds gs : List (DataW H)} {before : List MemPlace}
    (hW : DataW.Whole enc Try.prog f.params.toList s.vars false W args.toList ds gs before) (hv : s.vars = []) (hrt : f.resultTypes = #[4]) (hp : ∀ t ∈ f.params.toList, Try.prog.readableRec t = true ∧ t < Try.prog.types.size)
    (hs : s.fn H ds = { results := [.lit (.bool true)], args := ds }) (hb : Below W.heap.size W W') :
    s.post enc Try.prog f false true false false W args (.bool true) W' := by
  have hlt := hW.lt
  have hW0 := hW
  obtain ⟨p, q, hA, hV, rfl, _, _⟩ := hW0
  rw [hv] at hV
  obtain ⟨rfl, rfl⟩ := trodVars_none hV
  simp only [List.append_nil] at hW hlt
  refine ⟨ds, [], p, [], p, [], hW, ?_, ?_, ?_, hb.frame _, fun h => by cases h⟩
  · rw [List.append_nil, hs, hrt]
    exact trodAll_mk1 (shut_bool Try.underlying4 true)
  · rw [List.append_nil, hs]
    exact trods_stay laidOut hb _ _ _ _ hp hA hlt
  · rw [List.append_nil, hs, hv]
    exact rfl
end
theorem fine64 : Try.prog.readableRec 64 = true ∧ 64 < Try.prog.types.size := ⟨by kernel_rfl, of_decide_eq_true (by kernel_rfl)⟩
theorem cells64 : Try.prog.cellsOf 64 = 2 := by kernel_rfl
end Go.Proofs.Ytheddoinnakneaa
/- contracts: lines between pegs, points on them, lines that meet -/
namespace Go.Proofs.Ytheddoinnakneaa
open Go.ChangeShapes Go.WideShapes Go.ChangeAt Go.RowKit Go.Joins
set_option linter.unusedVariables false
set_option linter.unusedSimpArgs false
set_option maxRecDepth 4000
/-- the sign of a number -/
def sgn (n : Int) : Int := if 0 < n then 1 else if n < 0 then -1 else 0
/-- a point on the line between two -/
def onB (a1 a2 b1 b2 p1 p2 : Int) : Bool := decide (twI a1 a2 b1 b2 p1 p2 = 0) && decide ((a1 - p1) * (b1 - p1) ≤ 0) && decide ((a2 - p2) * (b2 - p2) ≤ 0)
theorem pgOn_any (a1 a2 b1 b2 p1 p2 : Int) (w : World) (ha : Sz a1 a2) (hb : Sz b1 b2) (hp : Sz p1 p2) :
    Calls Try.prog 121 #[.agg #[.int .i64 a1, .int .i64 a2], .agg #[.int .i64 b1, .int .i64 b2], .agg #[.int .i64 p1, .int .i64 p2]] w fun e w' => e = .returned (.bool (onB a1 a2 b1 b2 p1 p2)) ∧ Below w.heap.size w w' := by
  have q1 := mul_bd (x := a1 - p1) (y := b1 - p1) (m := 200000) (n := 200000) (by unfold Sz at *; omega) (by unfold Sz at *; omega) (by unfold Sz at *; omega) (by unfold Sz at *; omega)
  have q2 := mul_bd (x := a2 - p2) (y := b2 - p2) (m := 200000) (n := 200000) (by unfold Sz at *; omega) (by unfold Sz at *; omega) (by unfold Sz at *; omega) (by unfold Sz at *; omega)
  have ct := fun W => pgTurn_any a1 a2 b1 b2 p1 p2 W ha hb hp
  obtain ⟨x1, x2, x3, x4⟩ := ha
  obtain ⟨x5, x6, x7, x8⟩ := hb
  obtain ⟨x9, x10, x11, x12⟩ := hp
  obtain ⟨q3, q4⟩ := q1
  obtain ⟨q5, q6⟩ := q2
  by_cases h1 : twI a1 a2 b1 b2 p1 p2 = 0
  · by_cases h2 : (a1 - p1) * (b1 - p1) ≤ 0
    · by_cases h3 : (a2 - p2) * (b2 - p2) ≤ 0
      all_goals
        have CT := Lib.hid ct
        clear ct
        go_enter Try.func121, Try.ntmps121
        go_wp2_with fail
        refine (CT.out _).mono ?_; rintro e w1 ⟨rfl, hb1⟩
        obtain ⟨hc1, hf1⟩ := bcell hb1
        have z1_0 : w.heap.size < w1.heap.size := by (have := hb1.size; simp at this; omega)
        have z1_1 : w.heap.size + 1 < w1.heap.size := by (have := hb1.size; simp at this; omega)
        have z1_2 : w.heap.size + 2 < w1.heap.size := by (have := hb1.size; simp at this; omega)
        have B1 : Below w.heap.size w w1 := (Below.alloc (Below.alloc (Below.alloc (Below.refl _ _) (by simp <;> omega) _) (by simp <;> omega) _) (by simp <;> omega) _).trans (hb1.mono (by simp <;> omega))
        go_wp2_with fail
        go_ret
        exact ⟨ret_bool (by simp [onB, h1, h2, h3]), B1⟩
    · have CT := Lib.hid ct
      clear ct
      go_enter Try.func121, Try.ntmps121
      go_wp2_with fail
      refine (CT.out _).mono ?_; rintro e w1 ⟨rfl, hb1⟩
      obtain ⟨hc1, hf1⟩ := bcell hb1
      have z1_0 : w.heap.size < w1.heap.size := by (have := hb1.size; simp at this; omega)
      have z1_1 : w.heap.size + 1 < w1.heap.size := by (have := hb1.size; simp at this; omega)
      have z1_2 : w.heap.size + 2 < w1.heap.size := by (have := hb1.size; simp at this; omega)
      have B1 : Below w.heap.size w w1 := (Below.alloc (Below.alloc (Below.alloc (Below.refl _ _) (by simp <;> omega) _) (by simp <;> omega) _) (by simp <;> omega) _).trans (hb1.mono (by simp <;> omega))
      go_wp2_with fail
      go_ret
      exact ⟨ret_bool (by simp [onB, h1] <;> omega), B1⟩
  · have CT := Lib.hid ct
    clear ct
    go_enter Try.func121, Try.ntmps121
    go_wp2_with fail
    refine (CT.out _).mono ?_; rintro e w1 ⟨rfl, hb1⟩
    obtain ⟨hc1, hf1⟩ := bcell hb1
    have z1_0 : w.heap.size < w1.heap.size := by (have := hb1.size; simp at this; omega)
    have z1_1 : w.heap.size + 1 < w1.heap.size := by (have := hb1.size; simp at this; omega)
    have z1_2 : w.heap.size + 2 < w1.heap.size := by (have := hb1.size; simp at this; omega)
    have B1 : Below w.heap.size w w1 := (Below.alloc (Below.alloc (Below.alloc (Below.refl _ _) (by simp <;> omega) _) (by simp <;> omega) _) (by simp <;> omega) _).trans (hb1.mono (by simp <;> omega))
    go_wp2_with fail
    go_ret
    exact ⟨ret_bool (by simp [onB, h1]), B1⟩
end Go.Proofs.Ytheddoinnakneaa
/- contracts: points on lines and lines that meet, on both sides -/
namespace Go.Proofs.Ytheddoinnakneaa
open Go.ChangeShapes Go.WideShapes Go.ChangeAt Go.RowKit Go.Joins
set_option linter.unusedVariables false
set_option linter.unusedSimpArgs false
set_option maxRecDepth 4000
theorem between_iff (a b p : Int) : (a - p) * (b - p) ≤ 0 ↔ (min a b ≤ p ∧ p ≤ max a b) := by
  constructor
  · intro h
    rcases Int.lt_trichotomy a p with h1 | h1 | h1 <;> rcases Int.lt_trichotomy b p with h2 | h2 | h2
    all_goals first
      | omega
      | (have := Int.mul_pos_of_neg_of_neg (show a - p < 0 by omega) (show b - p < 0 by omega); omega)
      | (have := Int.mul_pos (show 0 < a - p by omega) (show 0 < b - p by omega); omega)
  · rintro ⟨h1, h2⟩
    rcases Int.le_total a b with h | h
    · have := Int.mul_nonneg (show 0 ≤ p - a by omega) (show 0 ≤ b - p by omega)
      have e : (p - a) * (b - p) = -((a - p) * (b - p)) := by rw [← Int.neg_mul]; congr 1; omega
      omega
    · have := Int.mul_nonneg (show 0 ≤ a - p by omega) (show 0 ≤ p - b by omega)
      have e : (a - p) * (p - b) = -((a - p) * (b - p)) := by rw [← Int.mul_neg]; congr 1; omega
      omega
theorem onB_eq (a1 a2 b1 b2 p1 p2 : Int) : onB a1 a2 b1 b2 p1 p2 = (decide (twI a1 a2 b1 b2 p1 p2 = 0) && decide (min a1 b1 ≤ p1 ∧ p1 ≤ max a1 b1) && decide (min a2 b2 ≤ p2 ∧ p2 ≤ max a2 b2)) := by
  unfold onB; simp only [between_iff]
theorem isBetween_any (p1 p2 a1 a2 b1 b2 : Int) (w : World) (hp : Sz p1 p2) (ha : Sz a1 a2) (hb : Sz b1 b2) :
    Calls Try.prog 141 #[.agg #[.int .i64 p1, .int .i64 p2], .agg #[.int .i64 a1, .int .i64 a2], .agg #[.int .i64 b1, .int .i64 b2]] w fun e w' => e = .returned (.bool (onB a1 a2 b1 b2 p1 p2)) ∧ Below w.heap.size w w' := by
  have CT := Lib.hid (fun W => twiceThree_any a1 a2 b1 b2 p1 p2 W ha hb hp)
  by_cases h1 : twI a1 a2 b1 b2 p1 p2 = 0
  · go_enter Try.func141, Try.ntmps141
    go_wp2_with fail
    refine (CT.out _).mono ?_; rintro e w1 ⟨rfl, hb1⟩
    obtain ⟨hc1, hf1⟩ := bcell hb1
    have z1_0 : w.heap.size < w1.heap.size := by (have := hb1.size; simp at this; omega)
    have z1_1 : w.heap.size + 1 < w1.heap.size := by (have := hb1.size; simp at this; omega)
    have z1_2 : w.heap.size + 2 < w1.heap.size := by (have := hb1.size; simp at this; omega)
    have B1 : Below w.heap.size w w1 := (Below.alloc (Below.alloc (Below.alloc (Below.refl _ _) (by simp <;> omega) _) (by simp <;> omega) _) (by simp <;> omega) _).trans (hb1.mono (by simp <;> omega))
    go_wp2_with fail
    all_goals
      go_ret
      exact ⟨ret_bool (by rw [onB_eq, Bool.eq_iff_iff]; simp [h1] <;> omega), B1⟩
  · go_enter Try.func141, Try.ntmps141
    go_wp2_with fail
    refine (CT.out _).mono ?_; rintro e w1 ⟨rfl, hb1⟩
    obtain ⟨hc1, hf1⟩ := bcell hb1
    have z1_0 : w.heap.size < w1.heap.size := by (have := hb1.size; simp at this; omega)
    have z1_1 : w.heap.size + 1 < w1.heap.size := by (have := hb1.size; simp at this; omega)
    have z1_2 : w.heap.size + 2 < w1.heap.size := by (have := hb1.size; simp at this; omega)
    have B1 : Below w.heap.size w w1 := (Below.alloc (Below.alloc (Below.alloc (Below.refl _ _) (by simp <;> omega) _) (by simp <;> omega) _) (by simp <;> omega) _).trans (hb1.mono (by simp <;> omega))
    go_wp2_with fail
    go_ret
    exact ⟨ret_bool (by simp [onB, h1]), B1⟩
/-- two lines have a point in common -/
def meetB (a1 a2 b1 b2 c1 c2 d1 d2 : Int) : Bool :=
  onB a1 a2 b1 b2 c1 c2 || onB a1 a2 b1 b2 d1 d2 || onB c1 c2 d1 d2 a1 a2 || onB c1 c2 d1 d2 b1 b2 ||
    decide (twI a1 a2 b1 b2 c1 c2 * twI a1 a2 b1 b2 d1 d2 < 0 ∧ twI c1 c2 d1 d2 a1 a2 * twI c1 c2 d1 d2 b1 b2 < 0)
theorem sgn_mul (m n : Int) : sgn m * sgn n < 0 ↔ m * n < 0 := by
  unfold sgn
  rcases Int.lt_trichotomy m 0 with h1 | h1 | h1 <;> rcases Int.lt_trichotomy n 0 with h2 | h2 | h2
  · have := Int.mul_pos_of_neg_of_neg h1 h2
    rw [if_neg (by omega), if_pos h1, if_neg (by omega), if_pos h2]; omega
  · subst h2; simp
  · have := Int.mul_neg_of_neg_of_pos h1 h2
    rw [if_neg (by omega), if_pos h1, if_pos h2]; omega
  · subst h1; simp
  · subst h1; simp
  · subst h1; simp
  · have := Int.mul_neg_of_pos_of_neg h1 h2
    rw [if_pos h1, if_neg (by omega), if_pos h2]; omega
  · subst h2; simp
  · have := Int.mul_pos h1 h2
    rw [if_pos h1, if_pos h2]; omega
theorem sgn_01 (m : Int) : sgn m = -1 ∨ sgn m = 0 ∨ sgn m = 1 := by unfold sgn; split; omega; split <;> omega
theorem twI_bd {a1 a2 b1 b2 c1 c2 : Int} (ha : Sz a1 a2) (hb : Sz b1 b2) (hc : Sz c1 c2) : -80000000000 ≤ twI a1 a2 b1 b2 c1 c2 ∧ twI a1 a2 b1 b2 c1 c2 ≤ 80000000000 := by
  unfold Sz at *
  have h1 := prod_bd (a := b1) (b := a1) (c := c2) (d := a2) (by omega) (by omega) (by omega) (by omega)
  have h2 := prod_bd (a := b2) (b := a2) (c := c1) (d := a1) (by omega) (by omega) (by omega) (by omega)
  unfold twI; omega
end Go.Proofs.Ytheddoinnakneaa
/- A statement that leaves its order open, all of whose operations come to one value in every world that meets S and lead to such a world again: one walk through it, in the order of the text, serves for every order. -/
namespace Go.Proofs.Ytheddoinnakneaa
open Go.ChangeShapes Go.WideShapes Go.ChangeAt Go.RowKit Go.Joins
set_option linter.unusedVariables false
set_option linter.unusedSimpArgs false
set_option maxRecDepth 4000
section
variable {P : Program} {ops : Array Oper} {Q : Exit → Act → World → Prop} {md : Region.Mode} {S : World → Prop}
/-- what an operation's run comes to: the value v, in a world that meets S -/
def Comes (P : Program) (S : World → Prop) (v : Value) : Result Next → Prop
  | .ok (.value u) w' => u = v ∧ S w'
  | .ok .skip w' => v = undef ∧ S w'
  | .ok (.enter f args) w' => Calls P f args w' fun e w'' => e = .returned v ∧ S w''
  | _ => False
theorem comes_value {u v : Value} {w' : World} : Comes P S v (.ok (.value u) w') = (u = v ∧ S w') := rfl
theorem comes_skip {v : Value} {w' : World} : Comes P S v (.ok .skip w') = (v = undef ∧ S w') := rfl
theorem comes_enter {v : Value} {f : FuncId} {args : Array Value} {w' : World} : Comes P S v (.ok (.enter f args) w') = Calls P f args w' (fun e w'' => e = .returned v ∧ S w'') := rfl
theorem comes_v {u : Value} {w' : World} (h : S w') : Comes P S u (.ok (.value u) w') := ⟨rfl, h⟩
theorem comes_e {v : Value} {f : FuncId} {args : Array Value} {w' : World} (h : Calls P f args w' fun e w'' => e = .returned v ∧ S w'') : Comes P S v (.ok (.enter f args) w') := h
theorem comes_c {v : Value} {f : FuncId} {args : Array Value} {w' : World} (h : Calls P f args w' fun e w'' => e = .returned v ∧ Below w'.heap.size w' w'') (hk : ∀ w'', Below w'.heap.size w' w'' → S w'') : Comes P S v (.ok (.enter f args) w') :=
  Calls.mono h fun e w'' he => ⟨he.1, hk w'' he.2⟩
theorem comes_q {v : Value} {f : FuncId} {args : Array Value} {w' : World} (h : Calls P f args w' fun e w'' => e = .returned v ∧ w' = w'') (hs : S w') : Comes P S v (.ok (.enter f args) w') :=
  Calls.mono h fun e w'' he => ⟨he.1, he.2 ▸ hs⟩
def Steady (P : Program) (ops : Array Oper) (S : World → Prop) (o : Oper) (v : Value) (a : Act) : Prop :=
  (Region.wanted o (yielded ops a.tmps) = true ∧ ∀ w, S w → Comes P S v ((execOp a.eval o).run P w)) ∨
  (Region.wanted o (yielded ops a.tmps) = false ∧ v = undef)
theorem steady_same {o : Oper} {v : Value} {a a' : Act} (hy : Steady P ops S o v a) (he : execOp a'.eval o = execOp a.eval o)
    (hw : Region.wanted o (yielded ops a'.tmps) = Region.wanted o (yielded ops a.tmps)) : Steady P ops S o v a' := by
  unfold Steady at *; rw [he, hw]; exact hy
theorem steady_op {i : Nat} {o : Oper} {v : Value} {a : Act} (hi : ops[i]? = some o) (hy : Steady P ops S o v a) {K : Act → World → Prop} {w : World} (hS : S w)
    (h : ∀ w', S w' → K (a.put o.dst v) w') : wpOp P ops Q i K a w := by
  unfold wpOp
  simp only [hi]
  rcases hy with ⟨hw, hv⟩ | ⟨hw, rfl⟩
  · simp only [hw, if_true]
    left
    have hc := hv w hS
    unfold Oper.wp
    generalize (execOp a.eval o).run P w = r at *
    cases r with
    | ok n w' =>
      cases n with
      | value u => obtain ⟨rfl, h'⟩ := hc; exact h _ h'
      | skip => obtain ⟨rfl, h'⟩ := hc; exact h _ h'
      | enter f args => exact Calls.mono hc fun e w'' he => by obtain ⟨rfl, hs⟩ := he; exact h _ hs
      | _ => exact hc.elim
    | halt x w' => exact hc.elim
  · simp only [hw, Bool.false_eq_true, if_false]
    exact h _ hS
/-- whichever comes up comes to one value: no world is spoken of till the end -/
def wpB (P : Program) (md : Region.Mode) (ops : Array Oper) (Q : Exit → Act → World → Prop) (S : World → Prop) : Nat → Array Bool → Act → Prop
  | 0, listed, a => Region.ready md ops listed = [] ∧ ∀ w, S w → Q .normal a w
  | fuel + 1, listed, a => (Region.ready md ops listed = [] → ∀ w, S w → Q .normal a w) ∧
    ∀ i ∈ Region.ready md ops listed, ∃ oi v, ops[i]? = some oi ∧ Steady P ops S oi v a ∧ wpB P md ops Q S fuel (listed.setIfInBounds i true) (a.put oi.dst v)
theorem wpAny_of_B : ∀ (fuel : Nat) (listed : Array Bool) (a : Act), wpB P md ops Q S fuel listed a → ∀ w, S w → wpAny P md ops Q fuel listed a w
  | 0, _, _, h, w, hS => ⟨h.1, h.2 w hS⟩
  | fuel + 1, _, _, h, w, hS => ⟨fun hr => h.1 hr w hS, fun i hi => by
      obtain ⟨oi, v, ho, hy, hn⟩ := h.2 i hi
      exact steady_op ho hy hS fun w' hS' => wpAny_of_B fuel _ _ hn w' hS'⟩
theorem wpB_first {i : Nat} {oi : Oper} {v : Value} (hi : ops[i]? = some oi) (hsel : ∀ (j : Nat) (o : Oper) cs b, ops[j]? = some o → o.op ≠ .select cs b) :
    ∀ (fuel : Nat) (listed : Array Bool) (a : Act),
      (∀ j oj, ops[j]? = some oj → j ≠ i → listed.getD j true = false → (∀ e ∈ oj.after, Region.binds md e = true → e.on ≠ i) → oi.apart ops oj = true) →
      i ∈ Region.ready md ops listed → Steady P ops S oi v a →
      wpB P md ops Q S fuel (listed.setIfInBounds i true) (a.put oi.dst v) → wpB P md ops Q S (fuel + 1) listed a := by
  intro fuel
  induction fuel with
  | zero =>
    intro listed a _ hr hy H
    refine ⟨fun h => (by rw [h] at hr; cases hr), fun j hj => ?_⟩
    by_cases hji : j = i
    · subst hji; exact ⟨oi, v, hi, hy, H⟩
    · have hm := ready_mono hj hji
      rw [H.1] at hm
      cases hm
  | succ fuel ih =>
    intro listed a hfree hr hy H
    refine ⟨fun h => (by rw [h] at hr; cases hr), fun j hj => ?_⟩
    by_cases hji : j = i
    · subst hji; exact ⟨oi, v, hi, hy, H⟩
    · obtain ⟨oj, u, hoj, hsj, Hj⟩ := H.2 j (ready_mono hj hji)
      obtain ⟨hjun, oj', hoj', hall⟩ := mem_ready.1 hj
      obtain rfl : oj' = oj := Option.some.inj (hoj'.symm.trans hoj)
      have hnot : ∀ e ∈ oj'.after, Region.binds md e = true → e.on ≠ i := fun e he hb heq => by
        have h1 := hall e he hb
        have h0 := (mem_ready.1 hr).1
        rw [heq] at h1
        have : listed.getD i true = listed.getD i false := by
          rcases Nat.lt_or_ge i listed.size with h' | h'
          · simp [h']
          · simp [Array.getElem?_eq_none h'] at h1
        rw [this, h1] at h0
        cases h0
      obtain ⟨h1, h2, h3⟩ := Oper.apart_spec (hfree j oj' hoj hji hjun hnot)
      have k1 : Steady P ops S oj' u a := steady_same hsj (execOp_put oj' (fun cs b => hsel j oj' cs b hoj) a oi.dst v h1).symm (wanted_put oj' a oi.dst v h1).symm
      have k2 : Steady P ops S oi v (a.put oj'.dst u) := steady_same hy (execOp_put oi (fun cs b => hsel i oi cs b hi) a oj'.dst u h3) (wanted_put oi a oj'.dst u h3)
      refine ⟨oj', u, hoj, k1, ih _ _ (fun k ok hk hki hun hno => ?_) (ready_mono hr (Ne.symm hji)) k2 ?_⟩
      · refine hfree k ok hk hki ?_ hno
        by_cases hjk : j = k
        · subst hjk; exact hjun
        · rw [getD_set_ne true hjk] at hun; exact hun
      · rw [Array.setIfInBounds_comm _ _ hji, ← Act.put_comm a v u h2]
        exact Hj
theorem wpB_take {i : Nat} {oi : Oper} {v : Value} {fuel : Nat} {listed : Array Bool} {a : Act} (hi : ops[i]? = some oi) (hs : Region.noSelect ops = true)
    (hf : Region.free md ops listed i = true) (hr : (Region.ready md ops listed).contains i = true) (hy : Steady P ops S oi v a)
    (h : wpB P md ops Q S fuel (listed.setIfInBounds i true) (a.put oi.dst v)) : wpB P md ops Q S (fuel + 1) listed a :=
  wpB_first hi (Region.noSelect_spec hs) fuel listed a (Region.free_spec hi hf) (by simpa using hr) hy h
theorem op_of_drop {i : Nat} {oi : Oper} {rest : List Oper} (h : ops.toList.drop i = oi :: rest) : ops[i]? = some oi := by
  have h0 : (ops.toList.drop i)[0]? = some oi := by rw [h]; rfl
  simpa [List.getElem?_drop] using h0
/-- number i, as it stands in the text -/
theorem wpB_text (i : Nat) {oi : Oper} {rest : List Oper} {v : Value} {fuel : Nat} {listed : Array Bool} {a : Act} (hi : ops.toList.drop i = oi :: rest) (hs : Region.noSelect ops = true)
    (hf : Region.free md ops listed i = true) (hr : (Region.ready md ops listed).contains i = true) (hw : Region.wanted oi (yielded ops a.tmps) = true)
    (hy : ∀ w, S w → Comes P S v ((execOp a.eval oi).run P w))
    (h : wpB P md ops Q S fuel (listed.setIfInBounds i true) (a.put oi.dst v)) : wpB P md ops Q S (fuel + 1) listed a :=
  wpB_take (op_of_drop hi) hs hf hr (Or.inl ⟨hw, hy⟩) h
/-- number i, which is not asked for -/
theorem wpB_skip (i : Nat) {oi : Oper} {rest : List Oper} {fuel : Nat} {listed : Array Bool} {a : Act} (hi : ops.toList.drop i = oi :: rest) (hs : Region.noSelect ops = true)
    (hf : Region.free md ops listed i = true) (hr : (Region.ready md ops listed).contains i = true) (hw : Region.wanted oi (yielded ops a.tmps) = false)
    (h : wpB P md ops Q S fuel (listed.setIfInBounds i true) (a.put oi.dst undef)) : wpB P md ops Q S (fuel + 1) listed a :=
  wpB_take (op_of_drop hi) hs hf hr (Or.inr ⟨hw, rfl⟩) h
theorem wpB_done {listed : Array Bool} {a : Act} (hr : Region.ready md ops listed = []) (h : ∀ w, S w → Q .normal a w) : ∀ fuel, wpB P md ops Q S fuel listed a
  | 0 => ⟨hr, h⟩
  | _ + 1 => ⟨fun _ => h, by rw [hr]; simp⟩
theorem wp_region_B {id : Nat} {a : Act} {w : World} (S : World → Prop) (hm : P.follows .mixedOrders = true) (hS : S w.drew)
    (h : wpB P .any ops Q S ops.size (Array.replicate ops.size false) a) : (Code.region id ops true).wp P Q a w :=
  wp_region_any hm (wpAny_of_B _ _ _ h _ hS)
end
end Go.Proofs.Ytheddoinnakneaa
/- contracts: lines that meet, on both sides -/
namespace Go.Proofs.Ytheddoinnakneaa
open Go.ChangeShapes Go.WideShapes Go.ChangeAt Go.RowKit Go.Joins
set_option linter.unusedVariables false
set_option linter.unusedSimpArgs false
set_option maxRecDepth 4000
theorem sgn_pr (m n : Int) : -1 ≤ sgn m * sgn n ∧ sgn m * sgn n ≤ 1 := by
  have h1 := sgn_01 m
  have h2 := sgn_01 n
  exact mul_bd (m := 1) (n := 1) (by omega) (by omega) (by omega) (by omega)
theorem held4 {w W W' : World} {a1 a2 b1 b2 c1 c2 d1 d2 : Int} (h : Below w.heap.size w W ∧ w.heap.size + 3 < W.heap.size ∧ W.cell? ⟨w.heap.size, 0, none⟩ = some (.int .i64 a1) ∧ W.cell? ⟨w.heap.size, 1, none⟩ = some (.int .i64 a2) ∧ W.cell? ⟨w.heap.size + 1, 0, none⟩ = some (.int .i64 b1) ∧ W.cell? ⟨w.heap.size + 1, 1, none⟩ = some (.int .i64 b2) ∧ W.cell? ⟨w.heap.size + 2, 0, none⟩ = some (.int .i64 c1) ∧ W.cell? ⟨w.heap.size + 2, 1, none⟩ = some (.int .i64 c2) ∧ W.cell? ⟨w.heap.size + 3, 0, none⟩ = some (.int .i64 d1) ∧ W.cell? ⟨w.heap.size + 3, 1, none⟩ = some (.int .i64 d2)) (hb : Below W.heap.size W W') : Below w.heap.size w W' ∧ w.heap.size + 3 < W'.heap.size ∧ W'.cell? ⟨w.heap.size, 0, none⟩ = some (.int .i64 a1) ∧ W'.cell? ⟨w.heap.size, 1, none⟩ = some (.int .i64 a2) ∧ W'.cell? ⟨w.heap.size + 1, 0, none⟩ = some (.int .i64 b1) ∧ W'.cell? ⟨w.heap.size + 1, 1, none⟩ = some (.int .i64 b2) ∧ W'.cell? ⟨w.heap.size + 2, 0, none⟩ = some (.int .i64 c1) ∧ W'.cell? ⟨w.heap.size + 2, 1, none⟩ = some (.int .i64 c2) ∧ W'.cell? ⟨w.heap.size + 3, 0, none⟩ = some (.int .i64 d1) ∧ W'.cell? ⟨w.heap.size + 3, 1, none⟩ = some (.int .i64 d2) := by
  obtain ⟨h1, h2, h3, h4, h5, h6, h7, h8, h9, h10⟩ := h
  have hc := (bcell hb).1
  have hz := hb.size
  have hz1 := h1.size
  exact ⟨h1.trans (hb.mono hz1), by omega, by rw [hc _ _ (by omega), h3], by rw [hc _ _ (by omega), h4], by rw [hc _ _ (by omega), h5], by rw [hc _ _ (by omega), h6], by rw [hc _ _ (by omega), h7], by rw [hc _ _ (by omega), h8], by rw [hc _ _ (by omega), h9], by rw [hc _ _ (by omega), h10]⟩
end Go.Proofs.Ytheddoinnakneaa
/- contracts: lines that meet, the program's side -/
namespace Go.Proofs.Ytheddoinnakneaa
open Go.ChangeShapes Go.WideShapes Go.ChangeAt Go.RowKit Go.Joins
set_option linter.unusedVariables false
set_option linter.unusedSimpArgs false
set_option maxRecDepth 4000
theorem sz_of {x y : Int} (h : isPegB x y = true) : Sz x y := by unfold isPegB at h; simp at h; unfold Sz; omega
theorem tw_bd40 {a1 a2 b1 b2 c1 c2 : Int} (ha : isPegB a1 a2 = true) (hb : isPegB b1 b2 = true) (hc : isPegB c1 c2 = true) : -12800 ≤ twI a1 a2 b1 b2 c1 c2 ∧ twI a1 a2 b1 b2 c1 c2 ≤ 12800 := by
  unfold isPegB at *
  simp at ha hb hc
  have h1 := mul_bd (x := b1 - a1) (y := c2 - a2) (m := 80) (n := 80) (by omega) (by omega) (by omega) (by omega)
  have h2 := mul_bd (x := b2 - a2) (y := c1 - a1) (m := 80) (n := 80) (by omega) (by omega) (by omega) (by omega)
  unfold twI; omega
end Go.Proofs.Ytheddoinnakneaa
/- worlds in which the boxes of a call's points stand -/
namespace Go.Proofs.Ytheddoinnakneaa
open Go.ChangeShapes Go.WideShapes Go.ChangeAt Go.RowKit Go.Joins
set_option linter.unusedVariables false
set_option linter.unusedSimpArgs false
set_option maxRecDepth 4000
theorem held1 {w W W' : World} {a1 a2 : Int} (h : Below w.heap.size w W ∧ w.heap.size + 0 < W.heap.size ∧ W.cell? ⟨w.heap.size, 0, none⟩ = some (.int .i64 a1) ∧ W.cell? ⟨w.heap.size, 1, none⟩ = some (.int .i64 a2)) (hb : Below W.heap.size W W') : Below w.heap.size w W' ∧ w.heap.size + 0 < W'.heap.size ∧ W'.cell? ⟨w.heap.size, 0, none⟩ = some (.int .i64 a1) ∧ W'.cell? ⟨w.heap.size, 1, none⟩ = some (.int .i64 a2) := by
  obtain ⟨h1, h2, h3, h4⟩ := h
  have hc := (bcell hb).1
  have hz := hb.size
  have hz1 := h1.size
  exact ⟨h1.trans (hb.mono hz1), by omega, by rw [hc _ _ (by omega), h3], by rw [hc _ _ (by omega), h4]⟩
theorem held2 {w W W' : World} {a1 a2 b1 b2 : Int} (h : Below w.heap.size w W ∧ w.heap.size + 1 < W.heap.size ∧ W.cell? ⟨w.heap.size, 0, none⟩ = some (.int .i64 a1) ∧ W.cell? ⟨w.heap.size, 1, none⟩ = some (.int .i64 a2) ∧ W.cell? ⟨w.heap.size + 1, 0, none⟩ = some (.int .i64 b1) ∧ W.cell? ⟨w.heap.size + 1, 1, none⟩ = some (.int .i64 b2)) (hb : Below W.heap.size W W') : Below w.heap.size w W' ∧ w.heap.size + 1 < W'.heap.size ∧ W'.cell? ⟨w.heap.size, 0, none⟩ = some (.int .i64 a1) ∧ W'.cell? ⟨w.heap.size, 1, none⟩ = some (.int .i64 a2) ∧ W'.cell? ⟨w.heap.size + 1, 0, none⟩ = some (.int .i64 b1) ∧ W'.cell? ⟨w.heap.size + 1, 1, none⟩ = some (.int .i64 b2) := by
  obtain ⟨h1, h2, h3, h4, h5, h6⟩ := h
  have hc := (bcell hb).1
  have hz := hb.size
  have hz1 := h1.size
  exact ⟨h1.trans (hb.mono hz1), by omega, by rw [hc _ _ (by omega), h3], by rw [hc _ _ (by omega), h4], by rw [hc _ _ (by omega), h5], by rw [hc _ _ (by omega), h6]⟩
theorem held3 {w W W' : World} {a1 a2 b1 b2 c1 c2 : Int} (h : Below w.heap.size w W ∧ w.heap.size + 2 < W.heap.size ∧ W.cell? ⟨w.heap.size, 0, none⟩ = some (.int .i64 a1) ∧ W.cell? ⟨w.heap.size, 1, none⟩ = some (.int .i64 a2) ∧ W.cell? ⟨w.heap.size + 1, 0, none⟩ = some (.int .i64 b1) ∧ W.cell? ⟨w.heap.size + 1, 1, none⟩ = some (.int .i64 b2) ∧ W.cell? ⟨w.heap.size + 2, 0, none⟩ = some (.int .i64 c1) ∧ W.cell? ⟨w.heap.size + 2, 1, none⟩ = some (.int .i64 c2)) (hb : Below W.heap.size W W') : Below w.heap.size w W' ∧ w.heap.size + 2 < W'.heap.size ∧ W'.cell? ⟨w.heap.size, 0, none⟩ = some (.int .i64 a1) ∧ W'.cell? ⟨w.heap.size, 1, none⟩ = some (.int .i64 a2) ∧ W'.cell? ⟨w.heap.size + 1, 0, none⟩ = some (.int .i64 b1) ∧ W'.cell? ⟨w.heap.size + 1, 1, none⟩ = some (.int .i64 b2) ∧ W'.cell? ⟨w.heap.size + 2, 0, none⟩ = some (.int .i64 c1) ∧ W'.cell? ⟨w.heap.size + 2, 1, none⟩ = some (.int .i64 c2) := by
  obtain ⟨h1, h2, h3, h4, h5, h6, h7, h8⟩ := h
  have hc := (bcell hb).1
  have hz := hb.size
  have hz1 := h1.size
  exact ⟨h1.trans (hb.mono hz1), by omega, by rw [hc _ _ (by omega), h3], by rw [hc _ _ (by omega), h4], by rw [hc _ _ (by omega), h5], by rw [hc _ _ (by omega), h6], by rw [hc _ _ (by omega), h7], by rw [hc _ _ (by omega), h8]⟩
theorem box1 (w : World) (t : TypeId) (a1 a2 : Int) : Below w.heap.size w (w.alloc (.cells #[.int .i64 a1, .int .i64 a2] t)) ∧ w.heap.size + 0 < (w.alloc (.cells #[.int .i64 a1, .int .i64 a2] t)).heap.size ∧ (w.alloc (.cells #[.int .i64 a1, .int .i64 a2] t)).cell? ⟨w.heap.size, 0, none⟩ = some (.int .i64 a1) ∧ (w.alloc (.cells #[.int .i64 a1, .int .i64 a2] t)).cell? ⟨w.heap.size, 1, none⟩ = some (.int .i64 a2) :=
  ⟨Below.alloc (Below.refl _ _) (by simp <;> omega) _, by simp <;> omega, by go_simp, by go_simp⟩
theorem box2 (w : World) (t : TypeId) (a1 a2 b1 b2 : Int) : Below w.heap.size w ((w.alloc (.cells #[.int .i64 a1, .int .i64 a2] t)).alloc (.cells #[.int .i64 b1, .int .i64 b2] t)) ∧ w.heap.size + 1 < ((w.alloc (.cells #[.int .i64 a1, .int .i64 a2] t)).alloc (.cells #[.int .i64 b1, .int .i64 b2] t)).heap.size ∧ ((w.alloc (.cells #[.int .i64 a1, .int .i64 a2] t)).alloc (.cells #[.int .i64 b1, .int .i64 b2] t)).cell? ⟨w.heap.size, 0, none⟩ = some (.int .i64 a1) ∧ ((w.alloc (.cells #[.int .i64 a1, .int .i64 a2] t)).alloc (.cells #[.int .i64 b1, .int .i64 b2] t)).cell? ⟨w.heap.size, 1, none⟩ = some (.int .i64 a2) ∧ ((w.alloc (.cells #[.int .i64 a1, .int .i64 a2] t)).alloc (.cells #[.int .i64 b1, .int .i64 b2] t)).cell? ⟨w.heap.size + 1, 0, none⟩ = some (.int .i64 b1) ∧ ((w.alloc (.cells #[.int .i64 a1, .int .i64 a2] t)).alloc (.cells #[.int .i64 b1, .int .i64 b2] t)).cell? ⟨w.heap.size + 1, 1, none⟩ = some (.int .i64 b2) :=
  ⟨Below.alloc (Below.alloc (Below.refl _ _) (by simp <;> omega) _) (by simp <;> omega) _, by simp <;> omega, by go_simp, by go_simp, by go_simp, by go_simp⟩
theorem box3 (w : World) (t : TypeId) (a1 a2 b1 b2 c1 c2 : Int) : Below w.heap.size w (((w.alloc (.cells #[.int .i64 a1, .int .i64 a2] t)).alloc (.cells #[.int .i64 b1, .int .i64 b2] t)).alloc (.cells #[.int .i64 c1, .int .i64 c2] t)) ∧ w.heap.size + 2 < (((w.alloc (.cells #[.int .i64 a1, .int .i64 a2] t)).alloc (.cells #[.int .i64 b1, .int .i64 b2] t)).alloc (.cells #[.int .i64 c1, .int .i64 c2] t)).heap.size ∧ (((w.alloc (.cells #[.int .i64 a1, .int .i64 a2] t)).alloc (.cells #[.int .i64 b1, .int .i64 b2] t)).alloc (.cells #[.int .i64 c1, .int .i64 c2] t)).cell? ⟨w.heap.size, 0, none⟩ = some (.int .i64 a1) ∧ (((w.alloc (.cells #[.int .i64 a1, .int .i64 a2] t)).alloc (.cells #[.int .i64 b1, .int .i64 b2] t)).alloc (.cells #[.int .i64 c1, .int .i64 c2] t)).cell? ⟨w.heap.size, 1, none⟩ = some (.int .i64 a2) ∧ (((w.alloc (.cells #[.int .i64 a1, .int .i64 a2] t)).alloc (.cells #[.int .i64 b1, .int .i64 b2] t)).alloc (.cells #[.int .i64 c1, .int .i64 c2] t)).cell? ⟨w.heap.size + 1, 0, none⟩ = some (.int .i64 b1) ∧ (((w.alloc (.cells #[.int .i64 a1, .int .i64 a2] t)).alloc (.cells #[.int .i64 b1, .int .i64 b2] t)).alloc (.cells #[.int .i64 c1, .int .i64 c2] t)).cell? ⟨w.heap.size + 1, 1, none⟩ = some (.int .i64 b2) ∧ (((w.alloc (.cells #[.int .i64 a1, .int .i64 a2] t)).alloc (.cells #[.int .i64 b1, .int .i64 b2] t)).alloc (.cells #[.int .i64 c1, .int .i64 c2] t)).cell? ⟨w.heap.size + 2, 0, none⟩ = some (.int .i64 c1) ∧ (((w.alloc (.cells #[.int .i64 a1, .int .i64 a2] t)).alloc (.cells #[.int .i64 b1, .int .i64 b2] t)).alloc (.cells #[.int .i64 c1, .int .i64 c2] t)).cell? ⟨w.heap.size + 2, 1, none⟩ = some (.int .i64 c2) :=
  ⟨Below.alloc (Below.alloc (Below.alloc (Below.refl _ _) (by simp <;> omega) _) (by simp <;> omega) _) (by simp <;> omega) _, by simp <;> omega, by go_simp, by go_simp, by go_simp, by go_simp, by go_simp, by go_simp⟩
theorem box4 (w : World) (t : TypeId) (a1 a2 b1 b2 c1 c2 d1 d2 : Int) : Below w.heap.size w ((((w.alloc (.cells #[.int .i64 a1, .int .i64 a2] t)).alloc (.cells #[.int .i64 b1, .int .i64 b2] t)).alloc (.cells #[.int .i64 c1, .int .i64 c2] t)).alloc (.cells #[.int .i64 d1, .int .i64 d2] t)) ∧ w.heap.size + 3 < ((((w.alloc (.cells #[.int .i64 a1, .int .i64 a2] t)).alloc (.cells #[.int .i64 b1, .int .i64 b2] t)).alloc (.cells #[.int .i64 c1, .int .i64 c2] t)).alloc (.cells #[.int .i64 d1, .int .i64 d2] t)).heap.size ∧ ((((w.alloc (.cells #[.int .i64 a1, .int .i64 a2] t)).alloc (.cells #[.int .i64 b1, .int .i64 b2] t)).alloc (.cells #[.int .i64 c1, .int .i64 c2] t)).alloc (.cells #[.int .i64 d1, .int .i64 d2] t)).cell? ⟨w.heap.size, 0, none⟩ = some (.int .i64 a1) ∧ ((((w.alloc (.cells #[.int .i64 a1, .int .i64 a2] t)).alloc (.cells #[.int .i64 b1, .int .i64 b2] t)).alloc (.cells #[.int .i64 c1, .int .i64 c2] t)).alloc (.cells #[.int .i64 d1, .int .i64 d2] t)).cell? ⟨w.heap.size, 1, none⟩ = some (.int .i64 a2) ∧ ((((w.alloc (.cells #[.int .i64 a1, .int .i64 a2] t)).alloc (.cells #[.int .i64 b1, .int .i64 b2] t)).alloc (.cells #[.int .i64 c1, .int .i64 c2] t)).alloc (.cells #[.int .i64 d1, .int .i64 d2] t)).cell? ⟨w.heap.size + 1, 0, none⟩ = some (.int .i64 b1) ∧ ((((w.alloc (.cells #[.int .i64 a1, .int .i64 a2] t)).alloc (.cells #[.int .i64 b1, .int .i64 b2] t)).alloc (.cells #[.int .i64 c1, .int .i64 c2] t)).alloc (.cells #[.int .i64 d1, .int .i64 d2] t)).cell? ⟨w.heap.size + 1, 1, none⟩ = some (.int .i64 b2) ∧ ((((w.alloc (.cells #[.int .i64 a1, .int .i64 a2] t)).alloc (.cells #[.int .i64 b1, .int .i64 b2] t)).alloc (.cells #[.int .i64 c1, .int .i64 c2] t)).alloc (.cells #[.int .i64 d1, .int .i64 d2] t)).cell? ⟨w.heap.size + 2, 0, none⟩ = some (.int .i64 c1) ∧ ((((w.alloc (.cells #[.int .i64 a1, .int .i64 a2] t)).alloc (.cells #[.int .i64 b1, .int .i64 b2] t)).alloc (.cells #[.int .i64 c1, .int .i64 c2] t)).alloc (.cells #[.int .i64 d1, .int .i64 d2] t)).cell? ⟨w.heap.size + 2, 1, none⟩ = some (.int .i64 c2) ∧ ((((w.alloc (.cells #[.int .i64 a1, .int .i64 a2] t)).alloc (.cells #[.int .i64 b1, .int .i64 b2] t)).alloc (.cells #[.int .i64 c1, .int .i64 c2] t)).alloc (.cells #[.int .i64 d1, .int .i64 d2] t)).cell? ⟨w.heap.size + 3, 0, none⟩ = some (.int .i64 d1) ∧ ((((w.alloc (.cells #[.int .i64 a1, .int .i64 a2] t)).alloc (.cells #[.int .i64 b1, .int .i64 b2] t)).alloc (.cells #[.int .i64 c1, .int .i64 c2] t)).alloc (.cells #[.int .i64 d1, .int .i64 d2] t)).cell? ⟨w.heap.size + 3, 1, none⟩ = some (.int .i64 d2) :=
  ⟨Below.alloc (Below.alloc (Below.alloc (Below.alloc (Below.refl _ _) (by simp <;> omega) _) (by simp <;> omega) _) (by simp <;> omega) _) (by simp <;> omega) _, by simp <;> omega, by go_simp, by go_simp, by go_simp, by go_simp, by go_simp, by go_simp, by go_simp, by go_simp⟩
end Go.Proofs.Ytheddoinnakneaa
/- how many steps a line has -/
namespace Go.Proofs.Ytheddoinnakneaa
open Go.ChangeShapes Go.WideShapes Go.ChangeAt Go.RowKit Go.Joins
set_option linter.unusedVariables false
set_option linter.unusedSimpArgs false
set_option maxRecDepth 4000
/-- the number of steps of a line -/
def stepN (a1 a2 b1 b2 : Int) : Int := ((Nat.gcd (a1 - b1).natAbs (a2 - b2).natAbs : Nat) : Int)
theorem stepN_bd {a1 a2 b1 b2 : Int} (ha : isPegB a1 a2 = true) (hb : isPegB b1 b2 = true) : 0 ≤ stepN a1 a2 b1 b2 ∧ stepN a1 a2 b1 b2 ≤ 160 := by
  unfold isPegB at *
  simp at ha hb
  unfold stepN
  rcases Nat.eq_zero_or_pos (a1 - b1).natAbs with h | h
  · rw [h, Nat.gcd_zero_left]; omega
  · have := Nat.le_of_dvd h (Nat.gcd_dvd_left (a1 - b1).natAbs (a2 - b2).natAbs); omega
end Go.Proofs.Ytheddoinnakneaa
/- lists of points in memory: how they read; a list of the laws' package made one of the program's -/
namespace Go.Proofs.Ytheddoinnakneaa
open Go.ChangeShapes Go.WideShapes Go.ChangeAt Go.RowKit Go.Joins
set_option linter.unusedVariables false
set_option linter.unusedSimpArgs false
set_option maxRecDepth 4000
/-- the slice's cells from address A on hold the points l; they lie below block B -/
def Rd (w : World) (B : Nat) (A : Option Addr) (l : List (Int × Int)) : Prop :=
  0 < l.length → ∃ b off, A = some ⟨b, off, none⟩ ∧ b < B ∧ ∀ i p, l[i]? = some p →
    w.cell? ⟨b, off + i * 2, none⟩ = some (.int .i64 p.1) ∧ w.cell? ⟨b, off + i * 2 + 1, none⟩ = some (.int .i64 p.2)
theorem rd_keep {w w' : World} {B : Nat} {A : Option Addr} {l : List (Int × Int)} (h : Rd w B A l) (hk : ∀ b o, b < B → w'.cell? ⟨b, o, none⟩ = w.cell? ⟨b, o, none⟩) : Rd w' B A l := by
  intro hl
  obtain ⟨b, off, e, hb, hc⟩ := h hl
  exact ⟨b, off, e, hb, fun i p hp => by rw [hk _ _ hb, hk _ _ hb]; exact hc i p hp⟩
theorem rd_below {w w' : World} {B B' : Nat} {A : Option Addr} {l : List (Int × Int)} (h : Rd w B A l) (hb : Below B' w w') (hB : B ≤ B') : Rd w' B A l :=
  rd_keep h fun b o hlt => hb.cell (p := ⟨b, o, none⟩) (by show b < B'; omega)
theorem rd_more {w : World} {B B' : Nat} {A : Option Addr} {l : List (Int × Int)} (h : Rd w B A l) (hB : B ≤ B') : Rd w B' A l := by
  intro hl
  obtain ⟨b, off, e, hb, hc⟩ := h hl
  exact ⟨b, off, e, by omega, hc⟩
theorem szPegS_any (A : Option Addr) (n c : Nat) (m : Int) (w : World) (hn : n ≤ 9223372036854775807) (h1 : 0 ≤ m) (h2 : m ≤ 1000000000) :
    Calls Try.prog 15 #[.slice A n c, .int .i64 m] w fun e w' => e = .returned (.int .i64 (if m - n < 0 then -1 else m - n)) ∧ w = w' := by
  by_cases h : m - n < 0
  · rw [if_pos h]
    go_enter Try.func15, Try.ntmps15
    go_wp2_with fail
    go_ret
    exact ⟨rfl, rfl⟩
  · rw [if_neg h]
    go_enter Try.func15, Try.ntmps15
    go_wp2_with fail
    go_ret
    exact ⟨rfl, rfl⟩
theorem peg_info : (Try.prog.info? 56).map (fun i => (i.zero, i.size, i.bytes)) = some (some (.agg #[.int .i64 0, .int .i64 0]), 2, 16) := by kernel_rfl
/-- a new block of points: number g, the first k of them set -/
def Set (w : World) (g n k : Nat) (l : List (Int × Int)) : Prop :=
  g < w.heap.size ∧ (∀ i, i < n → (∃ u, w.cell? ⟨g, i * 2, none⟩ = some u) ∧ (∃ u, w.cell? ⟨g, i * 2 + 1, none⟩ = some u) ∧ w.frozen? ⟨g, i * 2, none⟩ = false ∧ w.frozen? ⟨g, i * 2 + 1, none⟩ = false) ∧
    ∀ i p, i < k → l[i]? = some p → w.cell? ⟨g, i * 2, none⟩ = some (.int .i64 p.1) ∧ w.cell? ⟨g, i * 2 + 1, none⟩ = some (.int .i64 p.2)
theorem set_new (w : World) (t : TypeId) (n : Nat) (l : List (Int × Int)) : Set (w.alloc (.cells (madeCells #[.int .i64 0, .int .i64 0] (n * 2)) t)) w.heap.size n 0 l := by
  refine ⟨by simp, fun i hi => ?_, fun i p h => absurd h (Nat.not_lt_zero _)⟩
  have hs := size_madeCells #[.int .i64 0, .int .i64 0] (n * 2)
  have hb : ∀ j, j < n * 2 → ∃ u, (w.alloc (.cells (madeCells #[.int .i64 0, .int .i64 0] (n * 2)) t)).cell? ⟨w.heap.size, j, none⟩ = some u := fun j hj =>
    ⟨_, by rw [cell_of_row (w.alloc _) w.heap.size j _ t (0, 0) (heap_alloc_new w _)]; exact Array.getElem?_eq_getElem (by omega)⟩
  refine ⟨hb _ (by omega), hb _ (by omega), ?_, ?_⟩ <;> (rw [frozen?_alloc_cells]; simp [World.frozen?])
theorem set_below {w w' : World} {g n k : Nat} {l : List (Int × Int)} (h : Set w g n k l) (hb : Below w.heap.size w w') : Set w' g n k l := by
  obtain ⟨h1, h2, h3⟩ := h
  have hc := (bcell hb).1
  have hf := (bcell hb).2
  have hz := hb.size
  exact ⟨by omega, fun i hi => by rw [hc _ _ h1, hc _ _ h1, hf _ _ h1, hf _ _ h1]; exact h2 i hi, fun i p hi hp => by rw [hc _ _ h1, hc _ _ h1]; exact h3 i p hi hp⟩
theorem set_store {w : World} {g n k : Nat} {l : List (Int × Int)} (h : Set w g n k l) (hk : k < n) {p : Int × Int} (hp : l[k]? = some p) :
    Set ((w.setCell ⟨g, k * 2, none⟩ (.int .i64 p.1)).setCell ⟨g, k * 2 + 1, none⟩ (.int .i64 p.2)) g n (k + 1) l := by
  obtain ⟨h1, h2, h3⟩ := h
  have so : ∀ (W : World) (o o' : Nat) (u v : Value), (W.cell? ⟨g, o, none⟩ = some u) → ∃ u', (W.setCell ⟨g, o', none⟩ v).cell? ⟨g, o, none⟩ = some u' := fun W o o' u v h => cell?_setCell_some h
  have ne : ∀ (W : World) (o o' : Nat) (v : Value), o' ≠ o → (W.setCell ⟨g, o', none⟩ v).cell? ⟨g, o, none⟩ = W.cell? ⟨g, o, none⟩ := fun W o o' v h =>
    World.cell?_setCell_other W _ _ _ (fun e => h (by injection e))
  have sm : ∀ (W : World) (o : Nat) (u v : Value), W.cell? ⟨g, o, none⟩ = some u → (W.setCell ⟨g, o, none⟩ v).cell? ⟨g, o, none⟩ = some v := fun W o u v h => World.cell?_setCell_same W _ _ h
  refine ⟨by simpa [World.setCell] using h1, fun i hi => ?_, fun i q hi hq => ?_⟩
  · obtain ⟨⟨u1, e1⟩, ⟨u2, e2⟩, f1, f2⟩ := h2 i hi
    obtain ⟨u3, e3⟩ := so w _ (k * 2) u1 (.int .i64 p.1) e1
    obtain ⟨u4, e4⟩ := so w _ (k * 2) u2 (.int .i64 p.1) e2
    refine ⟨so _ _ _ u3 _ e3, so _ _ _ u4 _ e4, ?_, ?_⟩
    · rw [World.frozen?_setCell, World.frozen?_setCell]; exact f1
    · rw [World.frozen?_setCell, World.frozen?_setCell]; exact f2
  · by_cases hik : i = k
    · subst hik
      rw [hp] at hq
      injection hq with hq
      subst hq
      obtain ⟨⟨u1, e1⟩, ⟨u2, e2⟩, _, _⟩ := h2 i hk
      have e2' : (w.setCell ⟨g, i * 2, none⟩ (.int .i64 p.1)).cell? ⟨g, i * 2 + 1, none⟩ = some u2 := by rw [ne _ _ _ _ (by omega)]; exact e2
      exact ⟨by rw [ne _ _ _ _ (by omega)]; exact sm _ _ _ _ e1, sm _ _ _ _ e2'⟩
    · rw [ne _ _ _ _ (by omega), ne _ _ _ _ (by omega), ne _ _ _ _ (by omega), ne _ _ _ _ (by omega)]
      exact h3 i q (by omega) hq
theorem toPegS_any (A : Option Addr) (c : Nat) (l : List (Int × Int)) (w : World) (hn : l.length ≤ 1048576) (hR : Rd w w.heap.size A l) :
    Calls Try.prog 17 #[.slice A l.length c] w fun e w' => e = .returned (.slice (some ⟨w.heap.size, 0, none⟩) l.length l.length) ∧ Below w.heap.size w w' ∧ Set w' w.heap.size l.length l.length l := by
  obtain ⟨i0, hi0, hz0, hz1, hz2⟩ := info_parts peg_info
  have hmk := fun W => run_make (P := Try.prog) W 26 56 i0 _ Try.underlying26 hi0 hz0 .i64 .i64 (l.length : Int) (l.length : Int) (by omega) (by omega) (by rw [hz2]; omega) (by omega)
  have HR := Lib.hid hR
  clear hR
  generalize hN : l.length = n at *
  have HN := Lib.hid hN
  clear hN
  go_enter Try.func17, Try.ntmps17
  go_wp2_with fail
  have hS0 := set_new w 56 n l
  have hB0 : Below w.heap.size w (w.alloc (.cells (madeCells #[.int .i64 0, .int .i64 0] (n * 2)) 56)) := (Below.refl _ _).alloc (Nat.le_refl _) _
  go_loopw [4] (fun i wr => ∃ k : Nat, i = .int .i64 k ∧ k ≤ n ∧ Below w.heap.size w wr ∧ Set wr w.heap.size n k l) (fun i _ => n - (intOf i).toNat)
  case atStart => exact ⟨0, rfl, Nat.zero_le _, hB0, hS0⟩
  case round =>
    obtain ⟨k, rfl, hk, hB, hS⟩ := hrel
    by_cases hlt : k < n
    · have hget : ∃ p, l[k]? = some p := ⟨_, List.getElem?_eq_getElem (by have := HN.out; omega)⟩
      obtain ⟨p, hp⟩ := hget
      obtain ⟨b, off, hA, hb, hcell⟩ := HR.out (by have := HN.out; omega)
      subst hA
      obtain ⟨hc1, hc2⟩ := hcell k p hp
      have hq1 : wr.cell? ⟨b, off + k * 2, none⟩ = some (.int .i64 p.1) := (hB.cell (p := ⟨b, off + k * 2, none⟩) hb).trans hc1
      have hq2 : wr.cell? ⟨b, off + k * 2 + 1, none⟩ = some (.int .i64 p.2) := (hB.cell (p := ⟨b, off + k * 2 + 1, none⟩) hb).trans hc2
      have HC := Lib.hid hcell
      have HP := Lib.hid hp
      have HS := Lib.hid hS
      clear hcell hp hS hc1 hc2 hS0 hB0 hmk
      go_wp2_with fail
      refine (toPeg_any _ _ _).mono ?_; rintro e w1 ⟨rfl, hb1⟩
      have S1 := set_below HS.out hb1
      have B1 := hB.trans (hb1.mono hB.size)
      obtain ⟨g1, g2, g3⟩ := S1
      obtain ⟨⟨u1, d1⟩, ⟨u2, d2⟩, d3, d4⟩ := g2 k hlt
      have HS1 := Lib.hid (show Set w1 w.heap.size n k l from ⟨g1, g2, g3⟩)
      clear g2 g3 HS
      go_wp2_with fail
      have S2 := set_store HS1.out hlt HP.out
      have B2 := (B1.setCell (p := ⟨w.heap.size, k * 2, none⟩) (Nat.le_refl _) (.int .i64 p.1)).setCell (p := ⟨w.heap.size, k * 2 + 1, none⟩) (Nat.le_refl _) (.int .i64 p.2)
      go_roundw
      case rel => first | exact ⟨k + 1, by go_num, by omega, B2, S2⟩ | ((repeat apply Exists.intro); exact ⟨⟨k + 1, by go_num, by omega, B2, S2⟩, rfl⟩)
      case measure => simp [intOf]; omega
    · have hkn : k = n := by omega
      subst hkn
      go_wp2_with fail
      go_ret
      exact ⟨rfl, hB, hS⟩
end Go.Proofs.Ytheddoinnakneaa
/- two lists of points held against each other -/
namespace Go.Proofs.Ytheddoinnakneaa
open Go.ChangeShapes Go.WideShapes Go.ChangeAt Go.RowKit Go.Joins
set_option linter.unusedVariables false
set_option linter.unusedSimpArgs false
set_option maxRecDepth 4000
theorem eqPeg_any (a1 a2 b1 b2 : Int) (w : World) :
    Calls Try.prog 47 #[.agg #[.int .i64 a1, .int .i64 a2], .agg #[.int .i64 b1, .int .i64 b2]] w fun e w' => e = .returned (.bool (decide ((a1, a2) = (b1, b2)))) ∧ Below w.heap.size w w' := by
  by_cases h1 : a1 = b1
  · by_cases h2 : a2 = b2
    · subst h1 h2
      go_enter Try.func47, Try.ntmps47
      go_wp2_with fail
      go_ret
      exact ⟨ret_bool (by simp), (by repeat (first | exact Below.refl _ _ | assumption | apply Below.drew | refine Below.alloc ?_ (by simp <;> omega) _))⟩
    · subst h1
      go_enter Try.func47, Try.ntmps47
      go_wp2_with fail
      go_ret
      exact ⟨ret_bool (by simp [h2]), (by repeat (first | exact Below.refl _ _ | assumption | apply Below.drew | refine Below.alloc ?_ (by simp <;> omega) _))⟩
  · go_enter Try.func47, Try.ntmps47
    go_wp2_with fail
    go_ret
    exact ⟨ret_bool (by simp [h1]), (by repeat (first | exact Below.refl _ _ | assumption | apply Below.drew | refine Below.alloc ?_ (by simp <;> omega) _))⟩
theorem eq_at {l m : List (Int × Int)} (h : l.length = m.length) : l = m ↔ ∀ (k : Nat) (p q : Int × Int), l[k]? = some p → m[k]? = some q → p = q := by
  constructor
  · rintro rfl k p q hp hq
    rw [hp] at hq; injection hq
  · intro H
    apply List.ext_getElem h
    intro i h1 h2
    exact H i _ _ (List.getElem?_eq_getElem h1) (List.getElem?_eq_getElem h2)
/-- the same so far -/
def Same (l m : List (Int × Int)) (k : Nat) : Prop := ∀ i p q, i < k → l[i]? = some p → m[i]? = some q → p = q
theorem eqPegS_any (A B : Option Addr) (c d : Nat) (l m : List (Int × Int)) (w : World) (hn : l.length ≤ 1048576) (hm : m.length ≤ 1048576) (hA : Rd w w.heap.size A l) (hB : Rd w w.heap.size B m) :
    Calls Try.prog 19 #[.slice A l.length c, .slice B m.length d] w fun e w' => e = .returned (.bool (decide (l = m))) ∧ Below w.heap.size w w' := by
  by_cases hl : l.length = m.length
  · have HL := Lib.hid hl
    have RA := Lib.hid hA
    have RB := Lib.hid hB
    clear hA hB
    rw [← hl] at hm ⊢
    clear hl
    generalize hN : l.length = n at *
    have HN := Lib.hid hN
    clear hN
    go_enter Try.func19, Try.ntmps19
    go_wp2_with fail
    go_loopw [5] (fun i wr => ∃ k : Nat, i = .int .i64 k ∧ k ≤ n ∧ Below w.heap.size w wr ∧ Hid (Same l m k)) (fun i _ => n - (intOf i).toNat)
    case atStart => exact ⟨0, rfl, Nat.zero_le _, Below.refl _ _, Lib.hid (fun i p q h => absurd h (Nat.not_lt_zero _))⟩
    case round =>
      obtain ⟨k, rfl, hk, hBel, hS⟩ := hrel
      by_cases hlt : k < n
      · have hg1 : ∃ p, l[k]? = some p := ⟨_, List.getElem?_eq_getElem (by have := HN.out; omega)⟩
        have hg2 : ∃ q, m[k]? = some q := ⟨_, List.getElem?_eq_getElem (by have := HN.out; have := HL.out; omega)⟩
        obtain ⟨p, hp⟩ := hg1
        obtain ⟨q, hq⟩ := hg2
        obtain ⟨b, off, hA, hb, hcA⟩ := RA.out (by have := HN.out; omega)
        obtain ⟨b', off', hA', hb', hcB⟩ := RB.out (by have := HN.out; have := HL.out; omega)
        subst hA hA'
        have k0 : ∀ W, Below w.heap.size w W → (Below w.heap.size w W ∧ W.cell? ⟨b, off + k * 2, none⟩ = some (.int .i64 p.1) ∧ W.cell? ⟨b, off + k * 2 + 1, none⟩ = some (.int .i64 p.2) ∧ W.cell? ⟨b', off' + k * 2, none⟩ = some (.int .i64 q.1) ∧ W.cell? ⟨b', off' + k * 2 + 1, none⟩ = some (.int .i64 q.2)) := fun W hW =>
          ⟨hW, (hW.cell (p := ⟨b, off + k * 2, none⟩) hb).trans (hcA k p hp).1, (hW.cell (p := ⟨b, off + k * 2 + 1, none⟩) hb).trans (hcA k p hp).2, (hW.cell (p := ⟨b', off' + k * 2, none⟩) hb').trans (hcB k q hq).1, (hW.cell (p := ⟨b', off' + k * 2 + 1, none⟩) hb').trans (hcB k q hq).2⟩
        have K0 := Lib.hid k0
        have kp : ∀ W W', (Below w.heap.size w W ∧ W.cell? ⟨b, off + k * 2, none⟩ = some (.int .i64 p.1) ∧ W.cell? ⟨b, off + k * 2 + 1, none⟩ = some (.int .i64 p.2) ∧ W.cell? ⟨b', off' + k * 2, none⟩ = some (.int .i64 q.1) ∧ W.cell? ⟨b', off' + k * 2 + 1, none⟩ = some (.int .i64 q.2)) → Below W.heap.size W W' → (Below w.heap.size w W' ∧ W'.cell? ⟨b, off + k * 2, none⟩ = some (.int .i64 p.1) ∧ W'.cell? ⟨b, off + k * 2 + 1, none⟩ = some (.int .i64 p.2) ∧ W'.cell? ⟨b', off' + k * 2, none⟩ = some (.int .i64 q.1) ∧ W'.cell? ⟨b', off' + k * 2 + 1, none⟩ = some (.int .i64 q.2)) := fun W W' h hb => k0 W' (h.1.trans (hb.mono h.1.size))
        have KP := Lib.hid kp
        clear kp
        have HP := Lib.hid hp
        have HQ := Lib.hid hq
        clear k0 hcA hcB hp hq
        by_cases hpq : p = q
        · have EQ := Lib.hid (fun W => (eqPeg_any p.1 p.2 q.1 q.2 W).mono fun e w' h => (show e = .returned (.bool true) ∧ Below W.heap.size W w' from ⟨h.1.trans (ret_bool (by simp [hpq])), h.2⟩))
          have hS2 : Hid (Same l m (k + 1)) := Lib.hid (fun i p' q' h hp' hq' => by
            by_cases hik : i = k
            · subst hik
              have e1 := HP.out
              have e2 := HQ.out
              rw [hp'] at e1
              rw [hq'] at e2
              injection e1 with e1
              injection e2 with e2
              rw [e1, e2, hpq]
            · exact hS.out i p' q' (by omega) hp' hq')
          clear hpq hS
          go_wp2_with fail
          refine wp_region_B (fun W => Below w.heap.size w W ∧ W.cell? ⟨b, off + k * 2, none⟩ = some (.int .i64 p.1) ∧ W.cell? ⟨b, off + k * 2 + 1, none⟩ = some (.int .i64 p.2) ∧ W.cell? ⟨b', off' + k * 2, none⟩ = some (.int .i64 q.1) ∧ W.cell? ⟨b', off' + k * 2 + 1, none⟩ = some (.int .i64 q.2)) (by kernel_rfl) (K0.out _ hBel.drew) ?_
          first | refine wpB_skip 0 rfl (by kernel_rfl) (by kernel_rfl) (by kernel_rfl) (by rfl) ?_ | (refine wpB_text 0 (v := ?_) rfl (by kernel_rfl) (by kernel_rfl) (by kernel_rfl) (by rfl) (fun W hW => ?_) ?_; rotate_left; (obtain ⟨k1, k2, k3, k4, k5⟩ := hW;  go_simp; refine comes_v ?_; exact ⟨k1, k2, k3, k4, k5⟩))
          (try simp only [Act.put, List.setIfInBounds_toArray, List.set_cons_zero, List.set_cons_succ])
          first | refine wpB_skip 1 rfl (by kernel_rfl) (by kernel_rfl) (by kernel_rfl) (by rfl) ?_ | (refine wpB_text 1 (v := ?_) rfl (by kernel_rfl) (by kernel_rfl) (by kernel_rfl) (by rfl) (fun W hW => ?_) ?_; rotate_left; (obtain ⟨k1, k2, k3, k4, k5⟩ := hW;  go_simp; refine comes_v ?_; exact ⟨k1, k2, k3, k4, k5⟩))
          (try simp only [Act.put, List.setIfInBounds_toArray, List.set_cons_zero, List.set_cons_succ])
          first | refine wpB_skip 2 rfl (by kernel_rfl) (by kernel_rfl) (by kernel_rfl) (by rfl) ?_ | (refine wpB_text 2 (v := ?_) rfl (by kernel_rfl) (by kernel_rfl) (by kernel_rfl) (by rfl) (fun W hW => ?_) ?_; rotate_left; (obtain ⟨k1, k2, k3, k4, k5⟩ := hW;  go_simp; refine comes_v ?_; exact ⟨k1, k2, k3, k4, k5⟩))
          (try simp only [Act.put, List.setIfInBounds_toArray, List.set_cons_zero, List.set_cons_succ])
          first | refine wpB_skip 3 rfl (by kernel_rfl) (by kernel_rfl) (by kernel_rfl) (by rfl) ?_ | (refine wpB_text 3 (v := ?_) rfl (by kernel_rfl) (by kernel_rfl) (by kernel_rfl) (by rfl) (fun W hW => ?_) ?_; rotate_left; (obtain ⟨k1, k2, k3, k4, k5⟩ := hW;  go_simp; refine comes_v ?_; exact ⟨k1, k2, k3, k4, k5⟩))
          (try simp only [Act.put, List.setIfInBounds_toArray, List.set_cons_zero, List.set_cons_succ])
          first | refine wpB_skip 4 rfl (by kernel_rfl) (by kernel_rfl) (by kernel_rfl) (by rfl) ?_ | (refine wpB_text 4 (v := ?_) rfl (by kernel_rfl) (by kernel_rfl) (by kernel_rfl) (by rfl) (fun W hW => ?_) ?_; rotate_left; (obtain ⟨k1, k2, k3, k4, k5⟩ := hW;  go_simp; refine comes_v ?_; exact ⟨k1, k2, k3, k4, k5⟩))
          (try simp only [Act.put, List.setIfInBounds_toArray, List.set_cons_zero, List.set_cons_succ])
          first | refine wpB_skip 5 rfl (by kernel_rfl) (by kernel_rfl) (by kernel_rfl) (by rfl) ?_ | (refine wpB_text 5 (v := ?_) rfl (by kernel_rfl) (by kernel_rfl) (by kernel_rfl) (by rfl) (fun W hW => ?_) ?_; rotate_left; (obtain ⟨k1, k2, k3, k4, k5⟩ := hW;  go_simp; refine comes_v ?_; exact ⟨k1, k2, k3, k4, k5⟩))
          (try simp only [Act.put, List.setIfInBounds_toArray, List.set_cons_zero, List.set_cons_succ])
          first | refine wpB_skip 6 rfl (by kernel_rfl) (by kernel_rfl) (by kernel_rfl) (by rfl) ?_ | (refine wpB_text 6 (v := ?_) rfl (by kernel_rfl) (by kernel_rfl) (by kernel_rfl) (by rfl) (fun W hW => ?_) ?_; rotate_left; (obtain ⟨k1, k2, k3, k4, k5⟩ := hW;  go_simp; refine comes_v ?_; exact ⟨k1, k2, k3, k4, k5⟩))
          (try simp only [Act.put, List.setIfInBounds_toArray, List.set_cons_zero, List.set_cons_succ])
          first | refine wpB_skip 7 rfl (by kernel_rfl) (by kernel_rfl) (by kernel_rfl) (by rfl) ?_ | (refine wpB_text 7 (v := ?_) rfl (by kernel_rfl) (by kernel_rfl) (by kernel_rfl) (by rfl) (fun W hW => ?_) ?_; rotate_left; (obtain ⟨k1, k2, k3, k4, k5⟩ := hW;  go_simp; refine comes_v ?_; exact ⟨k1, k2, k3, k4, k5⟩))
          (try simp only [Act.put, List.setIfInBounds_toArray, List.set_cons_zero, List.set_cons_succ])
          first | refine wpB_skip 8 rfl (by kernel_rfl) (by kernel_rfl) (by kernel_rfl) (by rfl) ?_ | (refine wpB_text 8 (v := .bool true) rfl (by kernel_rfl) (by kernel_rfl) (by kernel_rfl) (by rfl) (fun W hW => ?_) ?_; (obtain ⟨k1, k2, k3, k4, k5⟩ := hW;  go_simp; exact comes_c ( EQ.out _) (fun wn hbn => KP.out _ _ ⟨k1, k2, k3, k4, k5⟩ hbn)))
          (try simp only [Act.put, List.setIfInBounds_toArray, List.set_cons_zero, List.set_cons_succ])
          first | refine wpB_skip 9 rfl (by kernel_rfl) (by kernel_rfl) (by kernel_rfl) (by rfl) ?_ | (refine wpB_text 9 (v := ?_) rfl (by kernel_rfl) (by kernel_rfl) (by kernel_rfl) (by rfl) (fun W hW => ?_) ?_; rotate_left; (obtain ⟨k1, k2, k3, k4, k5⟩ := hW;  go_simp; refine comes_v ?_; exact ⟨k1, k2, k3, k4, k5⟩))
          (try simp only [Act.put, List.setIfInBounds_toArray, List.set_cons_zero, List.set_cons_succ])
          refine wpB_done (by kernel_rfl) ?_ _
          intro W hW; obtain ⟨k1, k2, k3, k4, k5⟩ := hW
          go_wp2_with fail
          go_roundw
          case rel => first | exact ⟨k + 1, by go_num, by omega, k1, hS2⟩ | ((repeat apply Exists.intro); exact ⟨⟨k + 1, by go_num, by omega, k1, hS2⟩, rfl⟩)
          case measure => simp [intOf]; omega
        · have EQ := Lib.hid (fun W => (eqPeg_any p.1 p.2 q.1 q.2 W).mono fun e w' h => (show e = .returned (.bool false) ∧ Below W.heap.size W w' from ⟨h.1.trans (ret_bool (decide_eq_false hpq)), h.2⟩))
          have hne : Hid (¬ l = m) := Lib.hid (fun e => hpq (by have e1 := HP.out; rw [e, HQ.out] at e1; injection e1 with e1; exact e1.symm))
          clear hpq hS
          go_wp2_with fail
          refine wp_region_B (fun W => Below w.heap.size w W ∧ W.cell? ⟨b, off + k * 2, none⟩ = some (.int .i64 p.1) ∧ W.cell? ⟨b, off + k * 2 + 1, none⟩ = some (.int .i64 p.2) ∧ W.cell? ⟨b', off' + k * 2, none⟩ = some (.int .i64 q.1) ∧ W.cell? ⟨b', off' + k * 2 + 1, none⟩ = some (.int .i64 q.2)) (by kernel_rfl) (K0.out _ hBel.drew) ?_
          first | refine wpB_skip 0 rfl (by kernel_rfl) (by kernel_rfl) (by kernel_rfl) (by rfl) ?_ | (refine wpB_text 0 (v := ?_) rfl (by kernel_rfl) (by kernel_rfl) (by kernel_rfl) (by rfl) (fun W hW => ?_) ?_; rotate_left; (obtain ⟨k1, k2, k3, k4, k5⟩ := hW;  go_simp; refine comes_v ?_; exact ⟨k1, k2, k3, k4, k5⟩))
          (try simp only [Act.put, List.setIfInBounds_toArray, List.set_cons_zero, List.set_cons_succ])
          first | refine wpB_skip 1 rfl (by kernel_rfl) (by kernel_rfl) (by kernel_rfl) (by rfl) ?_ | (refine wpB_text 1 (v := ?_) rfl (by kernel_rfl) (by kernel_rfl) (by kernel_rfl) (by rfl) (fun W hW => ?_) ?_; rotate_left; (obtain ⟨k1, k2, k3, k4, k5⟩ := hW;  go_simp; refine comes_v ?_; exact ⟨k1, k2, k3, k4, k5⟩))
          (try simp only [Act.put, List.setIfInBounds_toArray, List.set_cons_zero, List.set_cons_succ])
          first | refine wpB_skip 2 rfl (by kernel_rfl) (by kernel_rfl) (by kernel_rfl) (by rfl) ?_ | (refine wpB_text 2 (v := ?_) rfl (by kernel_rfl) (by kernel_rfl) (by kernel_rfl) (by rfl) (fun W hW => ?_) ?_; rotate_left; (obtain ⟨k1, k2, k3, k4, k5⟩ := hW;  go_simp; refine comes_v ?_; exact ⟨k1, k2, k3, k4, k5⟩))
          (try simp only [Act.put, List.setIfInBounds_toArray, List.set_cons_zero, List.set_cons_succ])
          first | refine wpB_skip 3 rfl (by kernel_rfl) (by kernel_rfl) (by kernel_rfl) (by rfl) ?_ | (refine wpB_text 3 (v := ?_) rfl (by kernel_rfl) (by kernel_rfl) (by kernel_rfl) (by rfl) (fun W hW => ?_) ?_; rotate_left; (obtain ⟨k1, k2, k3, k4, k5⟩ := hW;  go_simp; refine comes_v ?_; exact ⟨k1, k2, k3, k4, k5⟩))
          (try simp only [Act.put, List.setIfInBounds_toArray, List.set_cons_zero, List.set_cons_succ])
          first | refine wpB_skip 4 rfl (by kernel_rfl) (by kernel_rfl) (by kernel_rfl) (by rfl) ?_ | (refine wpB_text 4 (v := ?_) rfl (by kernel_rfl) (by kernel_rfl) (by kernel_rfl) (by rfl) (fun W hW => ?_) ?_; rotate_left; (obtain ⟨k1, k2, k3, k4, k5⟩ := hW;  go_simp; refine comes_v ?_; exact ⟨k1, k2, k3, k4, k5⟩))
          (try simp only [Act.put, List.setIfInBounds_toArray, List.set_cons_zero, List.set_cons_succ])
          first | refine wpB_skip 5 rfl (by kernel_rfl) (by kernel_rfl) (by kernel_rfl) (by rfl) ?_ | (refine wpB_text 5 (v := ?_) rfl (by kernel_rfl) (by kernel_rfl) (by kernel_rfl) (by rfl) (fun W hW => ?_) ?_; rotate_left; (obtain ⟨k1, k2, k3, k4, k5⟩ := hW;  go_simp; refine comes_v ?_; exact ⟨k1, k2, k3, k4, k5⟩))
          (try simp only [Act.put, List.setIfInBounds_toArray, List.set_cons_zero, List.set_cons_succ])
          first | refine wpB_skip 6 rfl (by kernel_rfl) (by kernel_rfl) (by kernel_rfl) (by rfl) ?_ | (refine wpB_text 6 (v := ?_) rfl (by kernel_rfl) (by kernel_rfl) (by kernel_rfl) (by rfl) (fun W hW => ?_) ?_; rotate_left; (obtain ⟨k1, k2, k3, k4, k5⟩ := hW;  go_simp; refine comes_v ?_; exact ⟨k1, k2, k3, k4, k5⟩))
          (try simp only [Act.put, List.setIfInBounds_toArray, List.set_cons_zero, List.set_cons_succ])
          first | refine wpB_skip 7 rfl (by kernel_rfl) (by kernel_rfl) (by kernel_rfl) (by rfl) ?_ | (refine wpB_text 7 (v := ?_) rfl (by kernel_rfl) (by kernel_rfl) (by kernel_rfl) (by rfl) (fun W hW => ?_) ?_; rotate_left; (obtain ⟨k1, k2, k3, k4, k5⟩ := hW;  go_simp; refine comes_v ?_; exact ⟨k1, k2, k3, k4, k5⟩))
          (try simp only [Act.put, List.setIfInBounds_toArray, List.set_cons_zero, List.set_cons_succ])
          first | refine wpB_skip 8 rfl (by kernel_rfl) (by kernel_rfl) (by kernel_rfl) (by rfl) ?_ | (refine wpB_text 8 (v := .bool false) rfl (by kernel_rfl) (by kernel_rfl) (by kernel_rfl) (by rfl) (fun W hW => ?_) ?_; (obtain ⟨k1, k2, k3, k4, k5⟩ := hW;  go_simp; exact comes_c ( EQ.out _) (fun wn hbn => KP.out _ _ ⟨k1, k2, k3, k4, k5⟩ hbn)))
          (try simp only [Act.put, List.setIfInBounds_toArray, List.set_cons_zero, List.set_cons_succ])
          first | refine wpB_skip 9 rfl (by kernel_rfl) (by kernel_rfl) (by kernel_rfl) (by rfl) ?_ | (refine wpB_text 9 (v := ?_) rfl (by kernel_rfl) (by kernel_rfl) (by kernel_rfl) (by rfl) (fun W hW => ?_) ?_; rotate_left; (obtain ⟨k1, k2, k3, k4, k5⟩ := hW;  go_simp; refine comes_v ?_; exact ⟨k1, k2, k3, k4, k5⟩))
          (try simp only [Act.put, List.setIfInBounds_toArray, List.set_cons_zero, List.set_cons_succ])
          refine wpB_done (by kernel_rfl) ?_ _
          intro W hW; obtain ⟨k1, k2, k3, k4, k5⟩ := hW
          go_wp2_with fail
          go_ret
          exact ⟨ret_bool (decide_eq_false hne.out).symm, k1⟩
      · have hkn : k = n := by omega
        subst hkn
        go_wp2_with fail
        go_ret
        exact ⟨ret_bool (decide_eq_true ((eq_at (by have := HN.out; have := HL.out; omega)).2 (fun i p q hp hq => hS.out i p q (by have := (List.getElem?_eq_some_iff.1 hp).1; have := HN.out; omega) hp hq))).symm, hBel⟩
  · have hne : ¬ l = m := fun e => hl (by rw [e])
    have HH : decide (((l.length : Nat) : Int) = ((m.length : Nat) : Int)) = false := by simp; omega
    rw [decide_eq_false hne]
    go_enter Try.func19, Try.ntmps19
    go_wp2_with fail
    go_ret
    exact ⟨rfl, Below.refl _ _⟩
end Go.Proofs.Ytheddoinnakneaa
/- contract: the model's test of a polygon -/
namespace Go.Proofs.Ytheddoinnakneaa
open Go.ChangeShapes Go.WideShapes Go.ChangeAt Go.RowKit Go.Joins
set_option linter.unusedVariables false
set_option linter.unusedSimpArgs false
set_option maxRecDepth 4000
/-- corner number i, round and round -/
def vx (l : List (Int × Int)) (i : Nat) : Int × Int := (l[i % l.length]?).getD (0, 0)
def isPg (p : Int × Int) : Bool := isPegB p.1 p.2
def twP (a b c : Int × Int) : Int := twI a.1 a.2 b.1 b.2 c.1 c.2
def meP (a b c d : Int × Int) : Bool := meetB a.1 a.2 b.1 b.2 c.1 c.2 d.1 d.2
/-- what a polygon is -/
structure Good (l : List (Int × Int)) : Prop where
  few : 3 ≤ l.length ∧ l.length ≤ 10
  pegs : ∀ i, i < l.length → isPg (vx l i) = true
  diff : ∀ i j, j < i → i < l.length → vx l i ≠ vx l j
  turn : ∀ i, i < l.length → twP (vx l i) (vx l (i + 1)) (vx l (i + 2)) ≠ 0
  apart : ∀ i k, i + 2 ≤ k → k < l.length → k + 1 < l.length + i → meP (vx l i) (vx l (i + 1)) (vx l k) (vx l (k + 1)) = false
noncomputable def goodB (l : List (Int × Int)) : Bool := @decide (Good l) (Classical.propDecidable _)
theorem goodB_true {l : List (Int × Int)} (h : Good l) : goodB l = true := by unfold goodB; exact @decide_eq_true _ (Classical.propDecidable _) h
theorem goodB_false {l : List (Int × Int)} (h : ¬ Good l) : goodB l = false := by unfold goodB; exact @decide_eq_false _ (Classical.propDecidable _) h
theorem vx_get {l : List (Int × Int)} {i : Nat} (h : i < l.length) : l[i]? = some (vx l i) := by
  unfold vx; rw [Nat.mod_eq_of_lt h, List.getElem?_eq_getElem h]; rfl
theorem vx_mod {l : List (Int × Int)} (i : Nat) (h : 0 < l.length) : l[i % l.length]? = some (vx l i) := by
  unfold vx; rw [List.getElem?_eq_getElem (Nat.mod_lt _ h)]; rfl
/-- the first k corners are different pegs -/
def Fine (l : List (Int × Int)) (k : Nat) : Prop := ∀ i, i < k → isPg (vx l i) = true ∧ ∀ j, j < i → vx l i ≠ vx l j
/-- the corners below k turn, and their lines meet none behind -/
def Apart (l : List (Int × Int)) (m : Nat) : Prop := ∀ i, i < m → twP (vx l i) (vx l (i + 1)) (vx l (i + 2)) ≠ 0 ∧ ∀ k, i + 2 ≤ k → k < l.length → k + 1 < l.length + i → meP (vx l i) (vx l (i + 1)) (vx l k) (vx l (k + 1)) = false
def Turns (l : List (Int × Int)) (k : Nat) : Prop := twP (vx l k) (vx l (k + 1)) (vx l (k + 2)) ≠ 0
theorem vx_per (l : List (Int × Int)) (i : Nat) : vx l (i % l.length) = vx l i := by unfold vx; rw [Nat.mod_mod]
end Go.Proofs.Ytheddoinnakneaa
/- plain mathematics: sums around a polygon -/
namespace Go.Proofs.Ytheddoinnakneaa
open Go.ChangeShapes Go.WideShapes Go.ChangeAt Go.RowKit Go.Joins
set_option linter.unusedVariables false
set_option linter.unusedSimpArgs false
set_option maxRecDepth 4000
def cr (p q : Int × Int) : Int := p.1 * q.2 - q.1 * p.2
/-- f at corner 0, .., at corner k - 1, together -/
def sumTo (f : Nat → Int) : Nat → Int
  | 0 => 0
  | k + 1 => sumTo f k + f k
theorem sumTo_bd {f : Nat → Int} {m : Int} : ∀ (k : Nat), (∀ i, i < k → -m ≤ f i ∧ f i ≤ m) → -(m * k) ≤ sumTo f k ∧ sumTo f k ≤ m * k
  | 0, _ => by simp [sumTo]
  | k + 1, h => by
    have ih := sumTo_bd k (fun i hi => h i (by omega))
    have hk := h k (by omega)
    have e : m * ((k + 1 : Nat) : Int) = m * (k : Int) + m := by rw [Int.natCast_add, Int.mul_add]; simp
    rw [e]
    unfold sumTo
    omega
theorem sumTo_same {f g : Nat → Int} : ∀ (k : Nat), (∀ i, i < k → f i = g i) → sumTo f k = sumTo g k
  | 0, _ => rfl
  | k + 1, h => by unfold sumTo; rw [sumTo_same k (fun i hi => h i (by omega)), h k (by omega)]
def Sh (l : List (Int × Int)) (k : Nat) : Int := sumTo (fun i => cr (vx l i) (vx l (i + 1))) k
/-- twice the area -/
def areaN (l : List (Int × Int)) : Int := Sh l l.length
/-- the triangles from corner 0 to those below corner i, together -/
def fanTo (l : List (Int × Int)) (i : Nat) : Int := Sh l (i - 1) + cr (vx l (i - 1)) (vx l 0)
theorem fan_two (l : List (Int × Int)) : fanTo l 2 = 0 := by
  unfold fanTo Sh sumTo sumTo cr; simp; omega
theorem fan_step (l : List (Int × Int)) (i : Nat) (h : 2 ≤ i) : fanTo l (i + 1) = fanTo l i + twP (vx l 0) (vx l (i - 1)) (vx l i) := by
  obtain ⟨j, rfl⟩ : ∃ j, i = j + 1 := ⟨i - 1, by omega⟩
  have e1 : j + 1 + 1 - 1 = j + 1 := by omega
  have e2 : j + 1 - 1 = j := by omega
  unfold fanTo
  rw [e1, e2]
  have : Sh l (j + 1) = Sh l j + cr (vx l j) (vx l (j + 1)) := rfl
  rw [this]
  unfold twP twI cr
  grind
theorem fan_all (l : List (Int × Int)) (h : 3 ≤ l.length) : fanTo l l.length = areaN l := by
  unfold areaN fanTo
  obtain ⟨j, hj⟩ : ∃ j, l.length = j + 1 := ⟨l.length - 1, by omega⟩
  rw [hj]
  have e : j + 1 - 1 = j := by omega
  rw [e]
  have h1 : Sh l (j + 1) = Sh l j + cr (vx l j) (vx l (j + 1)) := rfl
  have h2 : vx l (j + 1) = vx l 0 := by rw [← hj]; unfold vx; simp
  rw [h1, h2]
theorem cr_bd {p q : Int × Int} (hp : isPg p = true) (hq : isPg q = true) : -3200 ≤ cr p q ∧ cr p q ≤ 3200 := by
  unfold isPg isPegB at hp hq
  simp only [Bool.and_eq_true, decide_eq_true_eq] at hp hq
  have h1 := mul_bd (x := p.1) (y := q.2) (m := 40) (n := 40) (by omega) (by omega) (by omega) (by omega)
  have h2 := mul_bd (x := q.1) (y := p.2) (m := 40) (n := 40) (by omega) (by omega) (by omega) (by omega)
  unfold cr
  omega
theorem vx_pg {l : List (Int × Int)} (h : ∀ i, i < l.length → isPg (vx l i) = true) (h0 : 0 < l.length) (i : Nat) : isPg (vx l i) = true := by
  rw [← vx_per]; exact h _ (Nat.mod_lt _ h0)
theorem good_pos {l : List (Int × Int)} (h : Good l) : 0 < l.length := by have := h.few.1; omega
theorem sh_bd {l : List (Int × Int)} (h : ∀ i, i < l.length → isPg (vx l i) = true) (h0 : 0 < l.length) (k : Nat) : -(3200 * (k : Int)) ≤ Sh l k ∧ Sh l k ≤ 3200 * (k : Int) :=
  sumTo_bd k fun i _ => cr_bd (vx_pg h h0 i) (vx_pg h h0 (i + 1))
theorem fan_bdW {l : List (Int × Int)} (h : ∀ i, i < l.length → isPg (vx l i) = true) (h0 : 0 < l.length) (i : Nat) (hi : i ≤ 60) : -400000 ≤ fanTo l i ∧ fanTo l i ≤ 400000 := by
  have h1 := sh_bd h h0 (i - 1)
  have h2 := cr_bd (vx_pg h h0 (i - 1)) (vx_pg h h0 0)
  unfold fanTo
  omega
theorem fan_bd {l : List (Int × Int)} (h : ∀ i, i < l.length → isPg (vx l i) = true) (h0 : 0 < l.length) (i : Nat) (hi : i ≤ 10) : -40000 ≤ fanTo l i ∧ fanTo l i ≤ 40000 := by
  have h1 := sh_bd h h0 (i - 1)
  have h2 := cr_bd (vx_pg h h0 (i - 1)) (vx_pg h h0 0)
  unfold fanTo
  omega
/-- how many steps the lines have together -/
def Rn (l : List (Int × Int)) (k : Nat) : Int := sumTo (fun i => stepN (vx l i).1 (vx l i).2 (vx l (i + 1)).1 (vx l (i + 1)).2) k
def onN (l : List (Int × Int)) : Int := Rn l l.length
theorem rn_bd {l : List (Int × Int)} (h : ∀ i, i < l.length → isPg (vx l i) = true) (h0 : 0 < l.length) (k : Nat) : -(160 * (k : Int)) ≤ Rn l k ∧ Rn l k ≤ 160 * (k : Int) :=
  sumTo_bd k fun i _ => by
    have := stepN_bd (a1 := (vx l i).1) (a2 := (vx l i).2) (b1 := (vx l (i + 1)).1) (b2 := (vx l (i + 1)).2) (vx_pg h h0 i) (vx_pg h h0 (i + 1))
    omega
/-- the told number of points inside -/
def insN (l : List (Int × Int)) : Int := ((areaN l).natAbs + 2 - onN l).tdiv 2
end Go.Proofs.Ytheddoinnakneaa
/- contracts: greatest of two, size of a number -/
namespace Go.Proofs.Ytheddoinnakneaa
open Go.ChangeShapes Go.WideShapes Go.ChangeAt Go.RowKit Go.Joins
set_option linter.unusedVariables false
set_option linter.unusedSimpArgs false
set_option maxRecDepth 4000
theorem below_dr {B : Nat} {a w : World} (h : Below B a w) (n : Nat) : Below B a (w.drewN n) := ⟨h.os, h.tape, h.output, h.size, h.block⟩
theorem l1Most_any (a b : Int) (w : World) : Calls Try.prog 72 #[.int .i64 a, .int .i64 b] w fun e w' => e = .returned (.int .i64 (max a b)) ∧ w = w' := by
  by_cases h : b < a
  all_goals
    go_enter Try.func72, Try.ntmps72
    go_wp2
    go_ret
    exact ⟨ret_int (by omega), rfl⟩
theorem l1Abs_any (a : Int) (w : World) (h1 : -100000000000000 ≤ a) (h2 : a ≤ 100000000000000) : Calls Try.prog 101 #[.int .i64 a] w fun e w' => e = .returned (.int .i64 (a.natAbs : Int)) ∧ w = w' := by
  go_enter Try.func101, Try.ntmps101
  go_wp2_with fail
  refine (l1Most_any _ _ _).mono ?_; rintro e _ ⟨rfl, rfl⟩
  go_wp2_with fail
  go_ret
  exact ⟨ret_int (by omega), rfl⟩
end Go.Proofs.Ytheddoinnakneaa
/- contracts: the greatest common divisor, on both sides; how many points a line has -/
namespace Go.Proofs.Ytheddoinnakneaa
open Go.ChangeShapes Go.WideShapes Go.ChangeAt Go.RowKit Go.Joins
set_option linter.unusedVariables false
set_option linter.unusedSimpArgs false
set_option maxRecDepth 4000
theorem gcd_step (m n : Nat) : Nat.gcd n (m % n) = Nat.gcd m n := by rw [Nat.gcd_comm n, ← Nat.gcd_rec, Nat.gcd_comm]
theorem pgCommon_any (a b : Int) (w : World) (h1 : -1000000 ≤ a) (h2 : a ≤ 1000000) (h3 : -1000000 ≤ b) (h4 : b ≤ 1000000) :
    Calls Try.prog 93 #[.int .i64 a, .int .i64 b] w fun e w' => e = .returned (.int .i64 ((Nat.gcd a.natAbs b.natAbs : Nat) : Int)) ∧ Below w.heap.size w w' := by
  have m1 : (a.natAbs : Int) ≤ 1000000 := by omega
  have m2 : (b.natAbs : Int) ≤ 1000000 := by omega
  have A1 := Lib.hid (fun W => l1Abs_any a W (by omega) (by omega))
  have A2 := Lib.hid (fun W => l1Abs_any b W (by omega) (by omega))
  generalize a.natAbs = p at *
  generalize b.natAbs = q at *
  go_enter Try.func93, Try.ntmps93
  go_wp2_with fail
  refine (A1.out _).mono ?_; rintro e _ ⟨rfl, rfl⟩
  go_wp2_with fail
  refine (A2.out _).mono ?_; rintro e _ ⟨rfl, rfl⟩
  go_wp2_with fail
  clear A1 A2
  go_loopw [0, 1] (fun u v wr => ∃ m n : Nat, u = .int .i64 m ∧ v = .int .i64 n ∧ Nat.gcd m n = Nat.gcd p q ∧ (m : Int) ≤ 1000000 ∧ (n : Int) ≤ 1000000 ∧ Below w.heap.size w wr) (fun _ v _ => (intOf v).toNat)
  case atStart => exact ⟨p, q, rfl, rfl, rfl, m1, m2, Below.refl _ _⟩
  case round =>
    obtain ⟨m, n, rfl, rfl, hg, hm, hn, hB⟩ := hrel
    by_cases hz : 0 < n
    · have hG := Lib.hid hg
      clear hg
      go_wp2_with fail
      go_quiet (fail)
      have hmod : m % n < n := Nat.mod_lt _ hz
      go_roundw
      case rel => ((repeat apply Exists.intro); exact ⟨⟨n, m % n, by go_num, by go_num, by rw [gcd_step]; exact hG.out, hn, by omega, by repeat (first | exact hB | apply Below.drew | apply below_dr)⟩, rfl⟩)
      case measure => simp [intOf]; omega
    · have hn0 : n = 0 := by omega
      subst hn0
      rw [Nat.gcd_zero_right] at hg
      subst hg
      go_wp2_with fail
      go_ret
      exact ⟨rfl, hB⟩
theorem tmod_step (x y : Int) : Nat.gcd y.natAbs (x.tmod y).natAbs = Nat.gcd x.natAbs y.natAbs := by
  rw [Int.natAbs_tmod]; exact gcd_step _ _
theorem tmod_bd (x y : Int) (h : y ≠ 0) : (x.tmod y).natAbs < y.natAbs := by
  rw [Int.natAbs_tmod]; exact Nat.mod_lt _ (by omega)
theorem greatestDivisor_any (a b : Int) (w : World) (h1 : -1000000 ≤ a) (h2 : a ≤ 1000000) (h3 : -1000000 ≤ b) (h4 : b ≤ 1000000) :
    Calls Try.prog 137 #[.int .i64 a, .int .i64 b] w fun e w' => e = .returned (.int .i64 ((Nat.gcd a.natAbs b.natAbs : Nat) : Int)) ∧ Below w.heap.size w w' := by
  have R : ∃ r, r = Nat.gcd a.natAbs b.natAbs := ⟨_, rfl⟩
  obtain ⟨r, hr⟩ := R
  rw [← hr]
  have HR := Lib.hid hr
  clear hr
  go_enter Try.func137, Try.ntmps137
  go_wp2_with fail
  go_loopw [0, 1] (fun u v wr => ∃ x y : Int, u = .int .i64 x ∧ v = .int .i64 y ∧ Hid (r = Nat.gcd x.natAbs y.natAbs) ∧ -1000000 ≤ x ∧ x ≤ 1000000 ∧ -1000000 ≤ y ∧ y ≤ 1000000 ∧ Below w.heap.size w wr) (fun _ v _ => (intOf v).natAbs)
  case atStart => exact ⟨a, b, rfl, rfl, HR, h1, h2, h3, h4, Below.refl _ _⟩
  case round =>
    obtain ⟨x, y, rfl, rfl, hg, hx1, hx2, hy1, hy2, hB⟩ := hrel
    by_cases hz : y = 0
    · subst hz
      go_wp2_with fail
      all_goals
        go_ret
        exact ⟨ret_int (by have := hg.out; simp at this; omega), hB⟩
    · go_wp2_with fail
      go_quiet (fail)
      have hmod := tmod_bd x y hz
      go_roundw
      case rel => ((repeat apply Exists.intro); exact ⟨⟨y, x.tmod y, by go_num, by go_num, by rw [tmod_step]; exact hg, hy1, hy2, by omega, by omega, by repeat (first | exact hB | apply Below.drew | apply below_dr)⟩, rfl⟩)
      case measure => simpa [intOf] using hmod
end Go.Proofs.Ytheddoinnakneaa
/- contracts: the model's IsPolygon; arePegs -/
namespace Go.Proofs.Ytheddoinnakneaa
open Go.ChangeShapes Go.WideShapes Go.ChangeAt Go.RowKit Go.Joins
set_option linter.unusedVariables false
set_option linter.unusedSimpArgs false
set_option maxRecDepth 4000
/-- all of them are pegs -/
def pegsB (l : List (Int × Int)) : Bool := l.all isPg
theorem pegsB_iff (l : List (Int × Int)) : pegsB l = true ↔ ∀ i, i < l.length → isPg (vx l i) = true := by
  unfold pegsB
  rw [List.all_eq_true]
  constructor
  · intro h i hi
    exact h _ (List.mem_of_getElem? (vx_get hi))
  · intro h p hp
    obtain ⟨i, hi, rfl⟩ := List.mem_iff_getElem.1 hp
    have := h i hi
    have e := vx_get hi
    rw [List.getElem?_eq_getElem hi] at e
    injection e with e
    rw [e]; exact this
theorem arePegs_any (A : Option Addr) (c : Nat) (l : List (Int × Int)) (w : World) (hn : l.length ≤ 1048576) (hR : Rd w w.heap.size A l) :
    Calls Try.prog 86 #[.slice A l.length c] w fun e w' => e = .returned (.bool (pegsB l)) ∧ Below w.heap.size w w' := by
  have HR := Lib.hid hR
  clear hR
  have HI := Lib.hid (pegsB_iff l)
  have HF := Lib.hid (fun h : ¬ pegsB l = true => (by simpa using h : pegsB l = false))
  generalize hN : l.length = n at *
  have HN := Lib.hid hN
  clear hN
  go_enter Try.func86, Try.ntmps86
  go_wp2_with fail
  go_loopg [7] n (fun g i wr => ∃ k : Nat, k ≤ n ∧ g = n - k ∧ i = .int .i64 k ∧ Below w.heap.size w wr ∧ Hid (∀ j, j < k → isPg (vx l j) = true))
  case atStart => exact ⟨0, Nat.zero_le _, rfl, rfl, Below.refl _ _, Lib.hid (fun i h => absurd h (Nat.not_lt_zero _))⟩
  case round =>
    obtain ⟨k, hk, hg, rfl, hB, hF⟩ := hrel
    rename World => wo
    have HGK := Lib.hid hg
    clear hg
    by_cases hlt : k < n
    · obtain ⟨b, off, hA, hb, hcell⟩ := HR.out (by have := HN.out; omega)
      subst hA
      obtain ⟨hc1, hc2⟩ := hcell k _ (vx_get (by have := HN.out; omega))
      clear hcell HR
      have hq1 : wo.cell? ⟨b, off + k * 2, none⟩ = some (.int .i64 (vx l k).1) := (hB.cell (p := ⟨b, off + k * 2, none⟩) hb).trans hc1
      have hq2 : wo.cell? ⟨b, off + k * 2 + 1, none⟩ = some (.int .i64 (vx l k).2) := (hB.cell (p := ⟨b, off + k * 2 + 1, none⟩) hb).trans hc2
      clear hc1 hc2
      have K1 := Lib.hid (fun W => implIsPeg_any (vx l k).1 (vx l k).2 W)
      have hzB := hB.size
      by_cases hpg : isPegB (vx l k).1 (vx l k).2 = true
      · rw [hpg] at K1
        have hF2 : Hid (∀ j, j < k + 1 → isPg (vx l j) = true) := Lib.hid (fun j hj => by
          by_cases hjk : j = k
          · subst hjk; exact hpg
          · exact hF.out j (by omega))
        clear hpg hF
        go_wp2_with fail
        refine (K1.out _).mono ?_; rintro e w1 ⟨rfl, hb1⟩
        have B1 := (Below.alloc hB hzB (.cells #[.int .i64 (vx l k).1, .int .i64 (vx l k).2] 56)).trans (hb1.mono (by simp; omega))
        go_wp2_with fail
        go_roundg (n - (k + 1))
        case measure => have := HGK.out; omega
        case rel => exact ⟨k + 1, by omega, rfl, by go_num, B1, hF2⟩
      · have hpf : isPegB (vx l k).1 (vx l k).2 = false := by simpa using hpg
        rw [hpf] at K1
        have hng : Hid (pegsB l = false) := Lib.hid (HF.out (fun h => hpg (HI.out.1 h k (by have := HN.out; omega))))
        clear hpg hpf
        go_wp2_with fail
        refine (K1.out _).mono ?_; rintro e w1 ⟨rfl, hb1⟩
        have B1 := (Below.alloc hB hzB (.cells #[.int .i64 (vx l k).1, .int .i64 (vx l k).2] 56)).trans (hb1.mono (by simp; omega))
        go_wp2_with fail
        go_ret
        exact ⟨ret_bool hng.out.symm, B1⟩
    · have hkn : n = k := by omega
      subst hkn
      have hy : Hid (pegsB l = true) := Lib.hid (HI.out.2 (fun i hi => hF.out i (by have := HN.out; omega)))
      go_wp2_with fail
      go_ret
      exact ⟨ret_bool hy.out.symm, hB⟩
end Go.Proofs.Ytheddoinnakneaa
/- contract: the corners of a polygon, each with both beside it -/
namespace Go.Proofs.Ytheddoinnakneaa
open Go.ChangeShapes Go.WideShapes Go.ChangeAt Go.RowKit Go.Joins
set_option linter.unusedVariables false
set_option linter.unusedSimpArgs false
set_option maxRecDepth 4000
theorem corner_info : (Try.prog.info? 107).map (fun i => (i.zero, i.size, i.bytes)) = some (some (.agg #[.int .i64 0, .int .i64 0, .int .i64 0, .int .i64 0, .int .i64 0, .int .i64 0]), 6, 48) := by kernel_rfl
/-- a new block of n corners: the first k of them set -/
def SetC (w : World) (g n k : Nat) (l : List (Int × Int)) : Prop :=
  g < w.heap.size ∧ (∀ j, j < n * 6 → (∃ u, w.cell? ⟨g, j, none⟩ = some u) ∧ w.frozen? ⟨g, j, none⟩ = false) ∧
    ∀ i, i < k → w.cell? ⟨g, i * 6, none⟩ = some (.int .i64 (vx l i).1) ∧ w.cell? ⟨g, i * 6 + 1, none⟩ = some (.int .i64 (vx l i).2) ∧
      w.cell? ⟨g, i * 6 + 2, none⟩ = some (.int .i64 (vx l (i + n - 1)).1) ∧ w.cell? ⟨g, i * 6 + 3, none⟩ = some (.int .i64 (vx l (i + n - 1)).2) ∧
      w.cell? ⟨g, i * 6 + 4, none⟩ = some (.int .i64 (vx l (i + 1)).1) ∧ w.cell? ⟨g, i * 6 + 5, none⟩ = some (.int .i64 (vx l (i + 1)).2)
theorem setC_new (w : World) (t : TypeId) (n : Nat) (l : List (Int × Int)) : SetC (w.alloc (.cells (madeCells #[.int .i64 0, .int .i64 0, .int .i64 0, .int .i64 0, .int .i64 0, .int .i64 0] (n * 6)) t)) w.heap.size n 0 l := by
  have hs := size_madeCells #[.int .i64 0, .int .i64 0, .int .i64 0, .int .i64 0, .int .i64 0, .int .i64 0] (n * 6)
  refine ⟨by simp, fun j hj => ⟨⟨_, by rw [cell_of_row (w.alloc _) w.heap.size j _ t (0, 0) (heap_alloc_new w _)]; exact Array.getElem?_eq_getElem (by omega)⟩, ?_⟩, fun i h => absurd h (Nat.not_lt_zero _)⟩
  · rw [frozen?_alloc_cells]; simp [World.frozen?]
theorem setC_store {w : World} {g n k : Nat} {l : List (Int × Int)} (h : SetC w g n k l) (hk : k < n) (hl : l.length = n) :
    SetC ((((((w.setCell ⟨g, k * 6, none⟩ (.int .i64 (vx l k).1)).setCell ⟨g, k * 6 + 1, none⟩ (.int .i64 (vx l k).2)).setCell ⟨g, k * 6 + 2, none⟩ (.int .i64 (vx l ((k + n - 1) % n)).1)).setCell ⟨g, k * 6 + 3, none⟩ (.int .i64 (vx l ((k + n - 1) % n)).2)).setCell ⟨g, k * 6 + 4, none⟩ (.int .i64 (vx l ((k + 1) % n)).1)).setCell ⟨g, k * 6 + 5, none⟩ (.int .i64 (vx l ((k + 1) % n)).2)) g n (k + 1) l := by
  obtain ⟨h1, h2, h3⟩ := h
  have ne : ∀ (W : World) (o o' : Nat) (v : Value), o' ≠ o → (W.setCell ⟨g, o', none⟩ v).cell? ⟨g, o, none⟩ = W.cell? ⟨g, o, none⟩ := fun W o o' v h =>
    World.cell?_setCell_other W _ _ _ (fun e => h (by injection e))
  have sm : ∀ (W : World) (o : Nat) (v : Value), (∃ u, W.cell? ⟨g, o, none⟩ = some u) → (W.setCell ⟨g, o, none⟩ v).cell? ⟨g, o, none⟩ = some v := fun W o v ⟨u, h⟩ => World.cell?_setCell_same W _ _ h
  have ex : ∀ (W : World) (o : Nat) (v : Value), (∀ j, j < n * 6 → ∃ u, W.cell? ⟨g, j, none⟩ = some u) → ∀ j, j < n * 6 → ∃ u, (W.setCell ⟨g, o, none⟩ v).cell? ⟨g, j, none⟩ = some u := fun W o v h j hj => by
    obtain ⟨u, hu⟩ := h j hj
    exact cell?_setCell_some hu
  have x0 : ∀ j, j < n * 6 → ∃ u, w.cell? ⟨g, j, none⟩ = some u := fun j hj => (h2 j hj).1
  have x1 := ex _ (k * 6) (.int .i64 (vx l k).1) x0
  have x2 := ex _ (k * 6 + 1) (.int .i64 (vx l k).2) x1
  have x3 := ex _ (k * 6 + 2) (.int .i64 (vx l ((k + n - 1) % n)).1) x2
  have x4 := ex _ (k * 6 + 3) (.int .i64 (vx l ((k + n - 1) % n)).2) x3
  have x5 := ex _ (k * 6 + 4) (.int .i64 (vx l ((k + 1) % n)).1) x4
  have x6 := ex _ (k * 6 + 5) (.int .i64 (vx l ((k + 1) % n)).2) x5
  refine ⟨by simpa [World.setCell] using h1, fun j hj => ⟨x6 j hj, ?_⟩, fun i hi => ?_⟩
  · simp only [World.frozen?_setCell]; exact (h2 j hj).2
  · by_cases hik : i = k
    · subst hik
      have p1 : vx l ((i + n - 1) % n) = vx l (i + n - 1) := by rw [← hl, vx_per]
      have p2 : vx l ((i + 1) % n) = vx l (i + 1) := by rw [← hl, vx_per]
      refine ⟨?_, ?_, ?_, ?_, ?_, ?_⟩
      · rw [ne _ _ _ _ (by omega), ne _ _ _ _ (by omega), ne _ _ _ _ (by omega), ne _ _ _ _ (by omega), ne _ _ _ _ (by omega)]; exact sm _ _ _ (x0 _ (by omega))
      · rw [ne _ _ _ _ (by omega), ne _ _ _ _ (by omega), ne _ _ _ _ (by omega), ne _ _ _ _ (by omega)]; exact sm _ _ _ (x1 _ (by omega))
      · rw [ne _ _ _ _ (by omega), ne _ _ _ _ (by omega), ne _ _ _ _ (by omega), ← p1]; exact sm _ _ _ (x2 _ (by omega))
      · rw [ne _ _ _ _ (by omega), ne _ _ _ _ (by omega), ← p1]; exact sm _ _ _ (x3 _ (by omega))
      · rw [ne _ _ _ _ (by omega), ← p2]; exact sm _ _ _ (x4 _ (by omega))
      · rw [← p2]; exact sm _ _ _ (x5 _ (by omega))
    · have hlt : i < k := by omega
      have all : ∀ r, r < 6 → ((((((w.setCell ⟨g, k * 6, none⟩ (.int .i64 (vx l k).1)).setCell ⟨g, k * 6 + 1, none⟩ (.int .i64 (vx l k).2)).setCell ⟨g, k * 6 + 2, none⟩ (.int .i64 (vx l ((k + n - 1) % n)).1)).setCell ⟨g, k * 6 + 3, none⟩ (.int .i64 (vx l ((k + n - 1) % n)).2)).setCell ⟨g, k * 6 + 4, none⟩ (.int .i64 (vx l ((k + 1) % n)).1)).setCell ⟨g, k * 6 + 5, none⟩ (.int .i64 (vx l ((k + 1) % n)).2)).cell? ⟨g, i * 6 + r, none⟩ = w.cell? ⟨g, i * 6 + r, none⟩ := fun r hr => by
        rw [ne _ _ _ _ (by omega), ne _ _ _ _ (by omega), ne _ _ _ _ (by omega), ne _ _ _ _ (by omega), ne _ _ _ _ (by omega), ne _ _ _ _ (by omega)]
      obtain ⟨c0, c1, c2, c3, c4, c5⟩ := h3 i hlt
      exact ⟨(all 0 (by omega)).trans c0, (all 1 (by omega)).trans c1, (all 2 (by omega)).trans c2, (all 3 (by omega)).trans c3, (all 4 (by omega)).trans c4, (all 5 (by omega)).trans c5⟩
theorem setC_below {w w' : World} {g n k : Nat} {l : List (Int × Int)} (h : SetC w g n k l) (hb : Below w.heap.size w w') : SetC w' g n k l := by
  obtain ⟨h1, h2, h3⟩ := h
  have hc := (bcell hb).1
  have hf := (bcell hb).2
  have hz := hb.size
  exact ⟨by omega, fun j hj => by rw [hc _ _ h1, hf _ _ h1]; exact h2 j hj, fun i hi => by
    rw [hc _ _ h1, hc _ _ h1, hc _ _ h1, hc _ _ h1, hc _ _ h1, hc _ _ h1]; exact h3 i hi⟩
theorem setC_drew {w : World} {g n k : Nat} {l : List (Int × Int)} (h : SetC w g n k l) : SetC w.drew g n k l := h
set_option maxHeartbeats 2000000 in
theorem cornersAroundW_any (A : Option Addr) (c : Nat) (l : List (Int × Int)) (w : World) (h1 : 1 ≤ l.length) (hn : l.length ≤ 60) (hR : Rd w w.heap.size A l) :
    Calls Try.prog 87 #[.slice A l.length c] w fun e w' => e = .returned (.slice (some ⟨w.heap.size, 0, none⟩) l.length l.length) ∧ Below w.heap.size w w' ∧ SetC w' w.heap.size l.length l.length l := by
  obtain ⟨i0, hi0, hz0, hz1, hz2⟩ := info_parts corner_info
  have hmk := fun W => run_make (P := Try.prog) W 104 107 i0 _ Try.underlying104 hi0 hz0 .i64 .i64 (l.length : Int) (l.length : Int) (by omega) (by omega) (by rw [hz2]; omega) (by omega)
  obtain ⟨b, off, rfl, hb, hcell⟩ := hR (by omega)
  have hC : ∀ i, i < l.length → w.cell? ⟨b, off + i * 2, none⟩ = some (.int .i64 (vx l i).1) ∧ w.cell? ⟨b, off + i * 2 + 1, none⟩ = some (.int .i64 (vx l i).2) := fun i hi => hcell i _ (vx_get hi)
  have HC := Lib.hid hC
  clear hR hC hcell
  generalize hN : l.length = n at *
  have HN := Lib.hid hN
  clear hN
  go_enter Try.func87, Try.ntmps87
  go_wp2_with fail
  have hS0 := setC_new w 107 n l
  have hB0 : Below w.heap.size w (w.alloc (.cells (madeCells #[.int .i64 0, .int .i64 0, .int .i64 0, .int .i64 0, .int .i64 0, .int .i64 0] (n * 6)) 107)) := (Below.refl _ _).alloc (Nat.le_refl _) _
  go_loopg [13] n (fun g i wr => ∃ k : Nat, k ≤ n ∧ g = n - k ∧ i = .int .i64 k ∧ Below w.heap.size w wr ∧ Hid (SetC wr w.heap.size n k l))
  case atStart => exact ⟨0, Nat.zero_le _, rfl, rfl, hB0, Lib.hid hS0⟩
  case round =>
    obtain ⟨k, hk, hg, rfl, hB, hS⟩ := hrel
    rename World => wo
    have HGK := Lib.hid hg
    clear hg hS0 hB0 hmk
    by_cases hlt : k < n
    · have hq1 : wo.cell? ⟨b, off + k * 2, none⟩ = some (.int .i64 (vx l k).1) := (hB.cell (p := ⟨b, off + k * 2, none⟩) hb).trans (HC.out k hlt).1
      have hq2 : wo.cell? ⟨b, off + k * 2 + 1, none⟩ = some (.int .i64 (vx l k).2) := (hB.cell (p := ⟨b, off + k * 2 + 1, none⟩) hb).trans (HC.out k hlt).2
      have hzB := hB.size
      have hbo : b < wo.heap.size := by omega
      have hgo := hS.out.1
      have m1 : (k + n - 1) % n < n := Nat.mod_lt _ (by omega)
      have m2 : (k + 1) % n < n := Nat.mod_lt _ (by omega)
      have q3 := (hB.cell (p := ⟨b, off + (k + n - 1) % n * 2, none⟩) hb).trans (HC.out _ m1).1
      have q4 := (hB.cell (p := ⟨b, off + (k + n - 1) % n * 2 + 1, none⟩) hb).trans (HC.out _ m1).2
      have q5 := (hB.cell (p := ⟨b, off + (k + 1) % n * 2, none⟩) hb).trans (HC.out _ m2).1
      have q6 := (hB.cell (p := ⟨b, off + (k + 1) % n * 2 + 1, none⟩) hb).trans (HC.out _ m2).2
      have st : ∀ j, j < 6 → (∃ u, wo.cell? ⟨w.heap.size, k * 6 + j, none⟩ = some u) ∧ wo.frozen? ⟨w.heap.size, k * 6 + j, none⟩ = false := fun j hj => hS.out.2.1 _ (by omega)
      obtain ⟨⟨u0, a0⟩, f0⟩ := st 0 (by omega)
      obtain ⟨⟨u1, a1⟩, f1⟩ := st 1 (by omega)
      obtain ⟨⟨u2, a2⟩, f2⟩ := st 2 (by omega)
      obtain ⟨⟨u3, a3⟩, f3⟩ := st 3 (by omega)
      obtain ⟨⟨u4, a4⟩, f4⟩ := st 4 (by omega)
      obtain ⟨⟨u5, a5⟩, f5⟩ := st 5 (by omega)
      clear st
      simp only [Nat.add_zero] at a0 f0
      go_wp2_with fail
      have e1 : IntKind.i64.wrap ((k : Int) + (n : Int)) = (k : Int) + (n : Int) := IntWalk.i64_in _ (by omega)
      have e2 : IntKind.i64.wrap ((k : Int) + (n : Int) - 1) = (k : Int) + (n : Int) - 1 := IntWalk.i64_in _ (by omega)
      have e3 : IntKind.i64.wrap ((k : Int) + 1) = (k : Int) + 1 := IntWalk.i64_in _ (by omega)
      have e4 : ¬ n = 0 := by omega
      have e5 : (0 : Int) ≤ ((k : Int) + 1) % (n : Int) := Int.emod_nonneg _ (by omega)
      have e6 : ((k : Int) + 1) % (n : Int) < (n : Int) := Int.emod_lt_of_pos _ (by omega)
      have e7 : ((k : Int) + 1).tmod (n : Int) = ((k : Int) + 1) % (n : Int) := Int.tmod_eq_emod_of_nonneg (by omega)
      have e8 : (((k : Int) + 1) % (n : Int)).toNat = (k + 1) % n := by rw [show ((k : Int) + 1) % (n : Int) = (((k + 1) % n : Nat) : Int) by simp]; exact Int.toNat_natCast _
      have e9 : (0 : Int) ≤ ((k : Int) + (n : Int) - 1) % (n : Int) := Int.emod_nonneg _ (by omega)
      have e10 : ((k : Int) + (n : Int) - 1) % (n : Int) < (n : Int) := Int.emod_lt_of_pos _ (by omega)
      have e11 : ((k : Int) + (n : Int) - 1).tmod (n : Int) = ((k : Int) + (n : Int) - 1) % (n : Int) := Int.tmod_eq_emod_of_nonneg (by omega)
      have e12 : (((k : Int) + (n : Int) - 1) % (n : Int)).toNat = (k + n - 1) % n := by rw [show ((k : Int) + (n : Int) - 1) % (n : Int) = (((k + n - 1) % n : Nat) : Int) by rw [Int.natCast_emod]; congr 1; omega]; exact Int.toNat_natCast _
      obtain ⟨W2, hW2⟩ : ∃ W2, W2 = wo.alloc (.cells #[.int .i64 (vx l k).1, .int .i64 (vx l k).2] 56) := ⟨_, rfl⟩
      have al : ∀ b' o, b' < wo.heap.size → W2.cell? ⟨b', o, none⟩ = wo.cell? ⟨b', o, none⟩ := fun b' o h => by rw [hW2]; exact World.cell?_alloc_lt wo _ _ h
      have r1 : W2.cell? ⟨wo.heap.size, 0, none⟩ = some (.int .i64 (vx l k).1) := by rw [hW2]; go_simp
      have r2 : W2.cell? ⟨wo.heap.size, 1, none⟩ = some (.int .i64 (vx l k).2) := by rw [hW2]; go_simp
      have r3 := (al _ _ hbo).trans q3
      have r4 := (al _ _ hbo).trans q4
      have r5 := (al _ _ hbo).trans q5
      have r6 := (al _ _ hbo).trans q6
      have b0 := (al _ _ hgo).trans a0
      have b1 := (al _ _ hgo).trans a1
      have b2 := (al _ _ hgo).trans a2
      have b3 := (al _ _ hgo).trans a3
      have b4 := (al _ _ hgo).trans a4
      have b5 := (al _ _ hgo).trans a5
      have fz : ∀ o, W2.frozen? ⟨w.heap.size, o, none⟩ = wo.frozen? ⟨w.heap.size, o, none⟩ := fun o => by rw [hW2]; exact frozen?_alloc_cells _ _ _ _
      have g0 := (fz _).trans f0
      have g1 := (fz _).trans f1
      have g2 := (fz _).trans f2
      have g3 := (fz _).trans f3
      have g4 := (fz _).trans f4
      have g5 := (fz _).trans f5
      rw [← hW2]
      have HW2 := Lib.hid hW2
      clear hW2 al fz q3 q4 q5 q6 a0 a1 a2 a3 a4 a5 f0 f1 f2 f3 f4 f5 hq1 hq2
      refine wp_region_still_tail 21 (by kernel_rfl) (by kernel_rfl) ?_
      change wpStill _ _ W2.drew (fun a' => wpList _ _ _ _ a' W2.drew) _ _
      simp only [List.take_succ_cons, List.take_zero, List.drop_succ_cons, List.drop_zero]
      repeat still_step
      try refine wpStill_nil ?_
      clear e1 e2 e3 e4 e5 e6 e7 e8 e9 e10 e11 e12
      have B2 : Below w.heap.size w W2 := by rw [HW2.out]; exact Below.alloc hB hzB _
      have S2 : SetC W2 w.heap.size n k l := by rw [HW2.out]; exact setC_below hS.out (Below.alloc (Below.refl _ _) (Nat.le_refl _) _)
      have S3 := Lib.hid (setC_drew (setC_store S2 hlt HN.out))
      have B3 := Lib.hid (Below.drew (Below.setCell (Below.setCell (Below.setCell (Below.setCell (Below.setCell (Below.setCell B2 (p := ⟨w.heap.size, k * 6, none⟩) (Nat.le_refl _) (.int .i64 (vx l k).1)) (p := ⟨w.heap.size, k * 6 + 1, none⟩) (Nat.le_refl _) (.int .i64 (vx l k).2)) (p := ⟨w.heap.size, k * 6 + 2, none⟩) (Nat.le_refl _) (.int .i64 (vx l ((k + n - 1) % n)).1)) (p := ⟨w.heap.size, k * 6 + 3, none⟩) (Nat.le_refl _) (.int .i64 (vx l ((k + n - 1) % n)).2)) (p := ⟨w.heap.size, k * 6 + 4, none⟩) (Nat.le_refl _) (.int .i64 (vx l ((k + 1) % n)).1)) (p := ⟨w.heap.size, k * 6 + 5, none⟩) (Nat.le_refl _) (.int .i64 (vx l ((k + 1) % n)).2)))
      clear S2 hS
      go_wp2_with fail
      go_roundg (n - (k + 1))
      case measure => have := HGK.out; omega
      case rel => exact ⟨k + 1, by omega, rfl, by go_num, B3.out, S3⟩
    · have hkn : n = k := by omega
      subst hkn
      go_wp2_with fail
      go_ret
      exact ⟨rfl, hB, hS.out⟩
theorem cornersAround_any (A : Option Addr) (c : Nat) (l : List (Int × Int)) (w : World) (h1 : 1 ≤ l.length) (hn : l.length ≤ 10) (hR : Rd w w.heap.size A l) :
    Calls Try.prog 87 #[.slice A l.length c] w fun e w' => e = .returned (.slice (some ⟨w.heap.size, 0, none⟩) l.length l.length) ∧ Below w.heap.size w w' ∧ SetC w' w.heap.size l.length l.length l := cornersAroundW_any A c l w h1 (by omega) hR
end Go.Proofs.Ytheddoinnakneaa
/- contracts: the program's sums around a polygon -/
namespace Go.Proofs.Ytheddoinnakneaa
open Go.ChangeShapes Go.WideShapes Go.ChangeAt Go.RowKit Go.Joins
set_option linter.unusedVariables false
set_option linter.unusedSimpArgs false
set_option maxRecDepth 4000
end Go.Proofs.Ytheddoinnakneaa
/- contracts: do two lines cross, do two lines meet, the program -/
namespace Go.Proofs.Ytheddoinnakneaa
open Go.ChangeShapes Go.WideShapes Go.ChangeAt Go.RowKit Go.Joins
set_option linter.unusedVariables false
set_option linter.unusedSimpArgs false
set_option maxRecDepth 4000
theorem linesCross_any (a1 a2 b1 b2 c1 c2 d1 d2 : Int) (w : World) (pa : isPegB a1 a2 = true) (pb : isPegB b1 b2 = true) (pc : isPegB c1 c2 = true) (pd : isPegB d1 d2 = true) :
    Calls Try.prog 142 #[.agg #[.int .i64 a1, .int .i64 a2], .agg #[.int .i64 b1, .int .i64 b2], .agg #[.int .i64 c1, .int .i64 c2], .agg #[.int .i64 d1, .int .i64 d2]] w fun e w' => e = .returned (.bool (decide (twI a1 a2 b1 b2 c1 c2 * twI a1 a2 b1 b2 d1 d2 < 0) && decide (twI c1 c2 d1 d2 a1 a2 * twI c1 c2 d1 d2 b1 b2 < 0))) ∧ Below w.heap.size w w' := by
  have ha := sz_of pa
  have hb := sz_of pb
  have hc := sz_of pc
  have hd := sz_of pd
  have T1 := Lib.hid (fun W => twiceThree_any a1 a2 b1 b2 c1 c2 W ha hb hc)
  have T2 := Lib.hid (fun W => twiceThree_any a1 a2 b1 b2 d1 d2 W ha hb hd)
  have T3 := Lib.hid (fun W => twiceThree_any c1 c2 d1 d2 a1 a2 W hc hd ha)
  have T4 := Lib.hid (fun W => twiceThree_any c1 c2 d1 d2 b1 b2 W hc hd hb)
  have q1 := tw_bd40 pa pb pc
  have q2 := tw_bd40 pa pb pd
  have q3 := tw_bd40 pc pd pa
  have q4 := tw_bd40 pc pd pb
  clear ha hb hc hd pa pb pc pd
  generalize twI a1 a2 b1 b2 c1 c2 = t1 at *
  generalize twI a1 a2 b1 b2 d1 d2 = t2 at *
  generalize twI c1 c2 d1 d2 a1 a2 = t3 at *
  generalize twI c1 c2 d1 d2 b1 b2 = t4 at *
  have r1 := mul_bd (m := 12800) (n := 12800) q1.1 q1.2 q2.1 q2.2
  have r2 := mul_bd (m := 12800) (n := 12800) q3.1 q3.2 q4.1 q4.2
  obtain ⟨p1, p2⟩ := r1
  obtain ⟨p3, p4⟩ := r2
  have e1 : IntKind.i64.wrap (t1 * t2) = t1 * t2 := IntWalk.i64_in _ (by omega)
  have e2 : IntKind.i64.wrap (t3 * t4) = t3 * t4 := IntWalk.i64_in _ (by omega)
  go_enter Try.func142, Try.ntmps142
  go_wp2_with fail
  by_cases hm : t1 * t2 < 0
  · have hd := decide_eq_true hm
    refine wp_region_B (fun W => Below w.heap.size w W ∧ w.heap.size + 3 < W.heap.size ∧ W.cell? ⟨w.heap.size, 0, none⟩ = some (.int .i64 a1) ∧ W.cell? ⟨w.heap.size, 1, none⟩ = some (.int .i64 a2) ∧ W.cell? ⟨w.heap.size + 1, 0, none⟩ = some (.int .i64 b1) ∧ W.cell? ⟨w.heap.size + 1, 1, none⟩ = some (.int .i64 b2) ∧ W.cell? ⟨w.heap.size + 2, 0, none⟩ = some (.int .i64 c1) ∧ W.cell? ⟨w.heap.size + 2, 1, none⟩ = some (.int .i64 c2) ∧ W.cell? ⟨w.heap.size + 3, 0, none⟩ = some (.int .i64 d1) ∧ W.cell? ⟨w.heap.size + 3, 1, none⟩ = some (.int .i64 d2)) (by kernel_rfl) (held4 (box4 w _ a1 a2 b1 b2 c1 c2 d1 d2) ((Below.refl _ _).drew)) ?_
    first | refine wpB_skip 0 rfl (by kernel_rfl) (by kernel_rfl) (by kernel_rfl) (by rfl) ?_ | (refine wpB_text 0 (v := ?_) rfl (by kernel_rfl) (by kernel_rfl) (by kernel_rfl) (by rfl) (fun W hW => ?_) ?_; rotate_left; (obtain ⟨k1, k2, k3, k4, k5, k6, k7, k8, k9, k10⟩ := hW;  go_simp; refine comes_v ?_; exact ⟨k1, k2, k3, k4, k5, k6, k7, k8, k9, k10⟩))
    (try simp only [Act.put, List.setIfInBounds_toArray, List.set_cons_zero, List.set_cons_succ])
    first | refine wpB_skip 1 rfl (by kernel_rfl) (by kernel_rfl) (by kernel_rfl) (by rfl) ?_ | (refine wpB_text 1 (v := ?_) rfl (by kernel_rfl) (by kernel_rfl) (by kernel_rfl) (by rfl) (fun W hW => ?_) ?_; rotate_left; (obtain ⟨k1, k2, k3, k4, k5, k6, k7, k8, k9, k10⟩ := hW;  go_simp; refine comes_v ?_; exact ⟨k1, k2, k3, k4, k5, k6, k7, k8, k9, k10⟩))
    (try simp only [Act.put, List.setIfInBounds_toArray, List.set_cons_zero, List.set_cons_succ])
    first | refine wpB_skip 2 rfl (by kernel_rfl) (by kernel_rfl) (by kernel_rfl) (by rfl) ?_ | (refine wpB_text 2 (v := ?_) rfl (by kernel_rfl) (by kernel_rfl) (by kernel_rfl) (by rfl) (fun W hW => ?_) ?_; rotate_left; (obtain ⟨k1, k2, k3, k4, k5, k6, k7, k8, k9, k10⟩ := hW;  go_simp; refine comes_v ?_; exact ⟨k1, k2, k3, k4, k5, k6, k7, k8, k9, k10⟩))
    (try simp only [Act.put, List.setIfInBounds_toArray, List.set_cons_zero, List.set_cons_succ])
    first | refine wpB_skip 3 rfl (by kernel_rfl) (by kernel_rfl) (by kernel_rfl) (by rfl) ?_ | (refine wpB_text 3 (v := .int .i64 t1) rfl (by kernel_rfl) (by kernel_rfl) (by kernel_rfl) (by rfl) (fun W hW => ?_) ?_; (obtain ⟨k1, k2, k3, k4, k5, k6, k7, k8, k9, k10⟩ := hW;  go_simp; exact comes_c ( T1.out _) (fun wn hbn => held4 ⟨k1, k2, k3, k4, k5, k6, k7, k8, k9, k10⟩ hbn)))
    (try simp only [Act.put, List.setIfInBounds_toArray, List.set_cons_zero, List.set_cons_succ])
    first | refine wpB_skip 4 rfl (by kernel_rfl) (by kernel_rfl) (by kernel_rfl) (by rfl) ?_ | (refine wpB_text 4 (v := ?_) rfl (by kernel_rfl) (by kernel_rfl) (by kernel_rfl) (by rfl) (fun W hW => ?_) ?_; rotate_left; (obtain ⟨k1, k2, k3, k4, k5, k6, k7, k8, k9, k10⟩ := hW;  go_simp; refine comes_v ?_; exact ⟨k1, k2, k3, k4, k5, k6, k7, k8, k9, k10⟩))
    (try simp only [Act.put, List.setIfInBounds_toArray, List.set_cons_zero, List.set_cons_succ])
    first | refine wpB_skip 5 rfl (by kernel_rfl) (by kernel_rfl) (by kernel_rfl) (by rfl) ?_ | (refine wpB_text 5 (v := ?_) rfl (by kernel_rfl) (by kernel_rfl) (by kernel_rfl) (by rfl) (fun W hW => ?_) ?_; rotate_left; (obtain ⟨k1, k2, k3, k4, k5, k6, k7, k8, k9, k10⟩ := hW;  go_simp; refine comes_v ?_; exact ⟨k1, k2, k3, k4, k5, k6, k7, k8, k9, k10⟩))
    (try simp only [Act.put, List.setIfInBounds_toArray, List.set_cons_zero, List.set_cons_succ])
    first | refine wpB_skip 6 rfl (by kernel_rfl) (by kernel_rfl) (by kernel_rfl) (by rfl) ?_ | (refine wpB_text 6 (v := ?_) rfl (by kernel_rfl) (by kernel_rfl) (by kernel_rfl) (by rfl) (fun W hW => ?_) ?_; rotate_left; (obtain ⟨k1, k2, k3, k4, k5, k6, k7, k8, k9, k10⟩ := hW;  go_simp; refine comes_v ?_; exact ⟨k1, k2, k3, k4, k5, k6, k7, k8, k9, k10⟩))
    (try simp only [Act.put, List.setIfInBounds_toArray, List.set_cons_zero, List.set_cons_succ])
    first | refine wpB_skip 7 rfl (by kernel_rfl) (by kernel_rfl) (by kernel_rfl) (by rfl) ?_ | (refine wpB_text 7 (v := .int .i64 t2) rfl (by kernel_rfl) (by kernel_rfl) (by kernel_rfl) (by rfl) (fun W hW => ?_) ?_; (obtain ⟨k1, k2, k3, k4, k5, k6, k7, k8, k9, k10⟩ := hW;  go_simp; exact comes_c ( T2.out _) (fun wn hbn => held4 ⟨k1, k2, k3, k4, k5, k6, k7, k8, k9, k10⟩ hbn)))
    (try simp only [Act.put, List.setIfInBounds_toArray, List.set_cons_zero, List.set_cons_succ])
    first | refine wpB_skip 8 rfl (by kernel_rfl) (by kernel_rfl) (by kernel_rfl) (by rfl) ?_ | (refine wpB_text 8 (v := ?_) rfl (by kernel_rfl) (by kernel_rfl) (by kernel_rfl) (by rfl) (fun W hW => ?_) ?_; rotate_left; (obtain ⟨k1, k2, k3, k4, k5, k6, k7, k8, k9, k10⟩ := hW;  go_simp; refine comes_v ?_; exact ⟨k1, k2, k3, k4, k5, k6, k7, k8, k9, k10⟩))
    (try simp only [Act.put, List.setIfInBounds_toArray, List.set_cons_zero, List.set_cons_succ])
    first | refine wpB_skip 9 rfl (by kernel_rfl) (by kernel_rfl) (by kernel_rfl) (by rfl) ?_ | (refine wpB_text 9 (v := ?_) rfl (by kernel_rfl) (by kernel_rfl) (by kernel_rfl) (by rfl) (fun W hW => ?_) ?_; rotate_left; (obtain ⟨k1, k2, k3, k4, k5, k6, k7, k8, k9, k10⟩ := hW;  go_simp; refine comes_v ?_; exact ⟨k1, k2, k3, k4, k5, k6, k7, k8, k9, k10⟩))
    (try simp only [Act.put, List.setIfInBounds_toArray, List.set_cons_zero, List.set_cons_succ])
    first | refine wpB_skip 10 rfl (by kernel_rfl) (by kernel_rfl) (by kernel_rfl) (by rfl) ?_ | (refine wpB_text 10 (v := ?_) rfl (by kernel_rfl) (by kernel_rfl) (by kernel_rfl) (by rfl) (fun W hW => ?_) ?_; rotate_left; (obtain ⟨k1, k2, k3, k4, k5, k6, k7, k8, k9, k10⟩ := hW;  go_simp; refine comes_v ?_; exact ⟨k1, k2, k3, k4, k5, k6, k7, k8, k9, k10⟩))
    (try simp only [Act.put, List.setIfInBounds_toArray, List.set_cons_zero, List.set_cons_succ])
    first | refine wpB_skip 11 rfl (by kernel_rfl) (by kernel_rfl) (by kernel_rfl) (by rfl) ?_ | (refine wpB_text 11 (v := ?_) rfl (by kernel_rfl) (by kernel_rfl) (by kernel_rfl) (by rfl) (fun W hW => ?_) ?_; rotate_left; (obtain ⟨k1, k2, k3, k4, k5, k6, k7, k8, k9, k10⟩ := hW;  go_simp; refine comes_v ?_; exact ⟨k1, k2, k3, k4, k5, k6, k7, k8, k9, k10⟩))
    (try simp only [Act.put, List.setIfInBounds_toArray, List.set_cons_zero, List.set_cons_succ])
    first | refine wpB_skip 12 rfl (by kernel_rfl) (by kernel_rfl) (by kernel_rfl) (by rfl) ?_ | (refine wpB_text 12 (v := ?_) rfl (by kernel_rfl) (by kernel_rfl) (by kernel_rfl) (by rfl) (fun W hW => ?_) ?_; rotate_left; (obtain ⟨k1, k2, k3, k4, k5, k6, k7, k8, k9, k10⟩ := hW;  go_simp; refine comes_v ?_; exact ⟨k1, k2, k3, k4, k5, k6, k7, k8, k9, k10⟩))
    (try simp only [Act.put, List.setIfInBounds_toArray, List.set_cons_zero, List.set_cons_succ])
    first | refine wpB_skip 13 rfl (by kernel_rfl) (by kernel_rfl) (by kernel_rfl) (by rfl) ?_ | (refine wpB_text 13 (v := ?_) rfl (by kernel_rfl) (by kernel_rfl) (by kernel_rfl) (by rfl) (fun W hW => ?_) ?_; rotate_left; (obtain ⟨k1, k2, k3, k4, k5, k6, k7, k8, k9, k10⟩ := hW;  go_simp; refine comes_v ?_; exact ⟨k1, k2, k3, k4, k5, k6, k7, k8, k9, k10⟩))
    (try simp only [Act.put, List.setIfInBounds_toArray, List.set_cons_zero, List.set_cons_succ])
    first | refine wpB_skip 14 rfl (by kernel_rfl) (by kernel_rfl) (by kernel_rfl) (by rfl) ?_ | (refine wpB_text 14 (v := .int .i64 t3) rfl (by kernel_rfl) (by kernel_rfl) (by kernel_rfl) (by rfl) (fun W hW => ?_) ?_; (obtain ⟨k1, k2, k3, k4, k5, k6, k7, k8, k9, k10⟩ := hW;  go_simp; exact comes_c ( T3.out _) (fun wn hbn => held4 ⟨k1, k2, k3, k4, k5, k6, k7, k8, k9, k10⟩ hbn)))
    (try simp only [Act.put, List.setIfInBounds_toArray, List.set_cons_zero, List.set_cons_succ])
    first | refine wpB_skip 15 rfl (by kernel_rfl) (by kernel_rfl) (by kernel_rfl) (by rfl) ?_ | (refine wpB_text 15 (v := ?_) rfl (by kernel_rfl) (by kernel_rfl) (by kernel_rfl) (by rfl) (fun W hW => ?_) ?_; rotate_left; (obtain ⟨k1, k2, k3, k4, k5, k6, k7, k8, k9, k10⟩ := hW;  go_simp; refine comes_v ?_; exact ⟨k1, k2, k3, k4, k5, k6, k7, k8, k9, k10⟩))
    (try simp only [Act.put, List.setIfInBounds_toArray, List.set_cons_zero, List.set_cons_succ])
    first | refine wpB_skip 16 rfl (by kernel_rfl) (by kernel_rfl) (by kernel_rfl) (by rfl) ?_ | (refine wpB_text 16 (v := ?_) rfl (by kernel_rfl) (by kernel_rfl) (by kernel_rfl) (by rfl) (fun W hW => ?_) ?_; rotate_left; (obtain ⟨k1, k2, k3, k4, k5, k6, k7, k8, k9, k10⟩ := hW;  go_simp; refine comes_v ?_; exact ⟨k1, k2, k3, k4, k5, k6, k7, k8, k9, k10⟩))
    (try simp only [Act.put, List.setIfInBounds_toArray, List.set_cons_zero, List.set_cons_succ])
    first | refine wpB_skip 17 rfl (by kernel_rfl) (by kernel_rfl) (by kernel_rfl) (by rfl) ?_ | (refine wpB_text 17 (v := ?_) rfl (by kernel_rfl) (by kernel_rfl) (by kernel_rfl) (by rfl) (fun W hW => ?_) ?_; rotate_left; (obtain ⟨k1, k2, k3, k4, k5, k6, k7, k8, k9, k10⟩ := hW;  go_simp; refine comes_v ?_; exact ⟨k1, k2, k3, k4, k5, k6, k7, k8, k9, k10⟩))
    (try simp only [Act.put, List.setIfInBounds_toArray, List.set_cons_zero, List.set_cons_succ])
    first | refine wpB_skip 18 rfl (by kernel_rfl) (by kernel_rfl) (by kernel_rfl) (by rfl) ?_ | (refine wpB_text 18 (v := .int .i64 t4) rfl (by kernel_rfl) (by kernel_rfl) (by kernel_rfl) (by rfl) (fun W hW => ?_) ?_; (obtain ⟨k1, k2, k3, k4, k5, k6, k7, k8, k9, k10⟩ := hW;  go_simp; exact comes_c ( T4.out _) (fun wn hbn => held4 ⟨k1, k2, k3, k4, k5, k6, k7, k8, k9, k10⟩ hbn)))
    (try simp only [Act.put, List.setIfInBounds_toArray, List.set_cons_zero, List.set_cons_succ])
    first | refine wpB_skip 19 rfl (by kernel_rfl) (by kernel_rfl) (by kernel_rfl) (by rfl) ?_ | (refine wpB_text 19 (v := ?_) rfl (by kernel_rfl) (by kernel_rfl) (by kernel_rfl) (by rfl) (fun W hW => ?_) ?_; rotate_left; (obtain ⟨k1, k2, k3, k4, k5, k6, k7, k8, k9, k10⟩ := hW;  go_simp; refine comes_v ?_; exact ⟨k1, k2, k3, k4, k5, k6, k7, k8, k9, k10⟩))
    (try simp only [Act.put, List.setIfInBounds_toArray, List.set_cons_zero, List.set_cons_succ])
    first | refine wpB_skip 20 rfl (by kernel_rfl) (by kernel_rfl) (by kernel_rfl) (by rfl) ?_ | (refine wpB_text 20 (v := ?_) rfl (by kernel_rfl) (by kernel_rfl) (by kernel_rfl) (by rfl) (fun W hW => ?_) ?_; rotate_left; (obtain ⟨k1, k2, k3, k4, k5, k6, k7, k8, k9, k10⟩ := hW;  go_simp; refine comes_v ?_; exact ⟨k1, k2, k3, k4, k5, k6, k7, k8, k9, k10⟩))
    (try simp only [Act.put, List.setIfInBounds_toArray, List.set_cons_zero, List.set_cons_succ])
    first | refine wpB_skip 21 rfl (by kernel_rfl) (by kernel_rfl) (by kernel_rfl) (by rfl) ?_ | (refine wpB_text 21 (v := ?_) rfl (by kernel_rfl) (by kernel_rfl) (by kernel_rfl) (by rfl) (fun W hW => ?_) ?_; rotate_left; (obtain ⟨k1, k2, k3, k4, k5, k6, k7, k8, k9, k10⟩ := hW;  go_simp; refine comes_v ?_; exact ⟨k1, k2, k3, k4, k5, k6, k7, k8, k9, k10⟩))
    (try simp only [Act.put, List.setIfInBounds_toArray, List.set_cons_zero, List.set_cons_succ])
    first | refine wpB_skip 22 rfl (by kernel_rfl) (by kernel_rfl) (by kernel_rfl) (by rfl) ?_ | (refine wpB_text 22 (v := ?_) rfl (by kernel_rfl) (by kernel_rfl) (by kernel_rfl) (by rfl) (fun W hW => ?_) ?_; rotate_left; (obtain ⟨k1, k2, k3, k4, k5, k6, k7, k8, k9, k10⟩ := hW;  go_simp; refine comes_v ?_; exact ⟨k1, k2, k3, k4, k5, k6, k7, k8, k9, k10⟩))
    (try simp only [Act.put, List.setIfInBounds_toArray, List.set_cons_zero, List.set_cons_succ])
    refine wpB_done (by kernel_rfl) ?_ _
    intro W hW; obtain ⟨k1, k2, k3, k4, k5, k6, k7, k8, k9, k10⟩ := hW
    clear e1 e2
    go_wp2_with fail
    go_ret
    exact ⟨ret_bool (by simp [hm]), k1⟩
  · have hd := decide_eq_false hm
    refine wp_region_B (fun W => Below w.heap.size w W ∧ w.heap.size + 3 < W.heap.size ∧ W.cell? ⟨w.heap.size, 0, none⟩ = some (.int .i64 a1) ∧ W.cell? ⟨w.heap.size, 1, none⟩ = some (.int .i64 a2) ∧ W.cell? ⟨w.heap.size + 1, 0, none⟩ = some (.int .i64 b1) ∧ W.cell? ⟨w.heap.size + 1, 1, none⟩ = some (.int .i64 b2) ∧ W.cell? ⟨w.heap.size + 2, 0, none⟩ = some (.int .i64 c1) ∧ W.cell? ⟨w.heap.size + 2, 1, none⟩ = some (.int .i64 c2) ∧ W.cell? ⟨w.heap.size + 3, 0, none⟩ = some (.int .i64 d1) ∧ W.cell? ⟨w.heap.size + 3, 1, none⟩ = some (.int .i64 d2)) (by kernel_rfl) (held4 (box4 w _ a1 a2 b1 b2 c1 c2 d1 d2) ((Below.refl _ _).drew)) ?_
    first | refine wpB_skip 0 rfl (by kernel_rfl) (by kernel_rfl) (by kernel_rfl) (by rfl) ?_ | (refine wpB_text 0 (v := ?_) rfl (by kernel_rfl) (by kernel_rfl) (by kernel_rfl) (by rfl) (fun W hW => ?_) ?_; rotate_left; (obtain ⟨k1, k2, k3, k4, k5, k6, k7, k8, k9, k10⟩ := hW;  go_simp; refine comes_v ?_; exact ⟨k1, k2, k3, k4, k5, k6, k7, k8, k9, k10⟩))
    (try simp only [Act.put, List.setIfInBounds_toArray, List.set_cons_zero, List.set_cons_succ])
    first | refine wpB_skip 1 rfl (by kernel_rfl) (by kernel_rfl) (by kernel_rfl) (by rfl) ?_ | (refine wpB_text 1 (v := ?_) rfl (by kernel_rfl) (by kernel_rfl) (by kernel_rfl) (by rfl) (fun W hW => ?_) ?_; rotate_left; (obtain ⟨k1, k2, k3, k4, k5, k6, k7, k8, k9, k10⟩ := hW;  go_simp; refine comes_v ?_; exact ⟨k1, k2, k3, k4, k5, k6, k7, k8, k9, k10⟩))
    (try simp only [Act.put, List.setIfInBounds_toArray, List.set_cons_zero, List.set_cons_succ])
    first | refine wpB_skip 2 rfl (by kernel_rfl) (by kernel_rfl) (by kernel_rfl) (by rfl) ?_ | (refine wpB_text 2 (v := ?_) rfl (by kernel_rfl) (by kernel_rfl) (by kernel_rfl) (by rfl) (fun W hW => ?_) ?_; rotate_left; (obtain ⟨k1, k2, k3, k4, k5, k6, k7, k8, k9, k10⟩ := hW;  go_simp; refine comes_v ?_; exact ⟨k1, k2, k3, k4, k5, k6, k7, k8, k9, k10⟩))
    (try simp only [Act.put, List.setIfInBounds_toArray, List.set_cons_zero, List.set_cons_succ])
    first | refine wpB_skip 3 rfl (by kernel_rfl) (by kernel_rfl) (by kernel_rfl) (by rfl) ?_ | (refine wpB_text 3 (v := .int .i64 t1) rfl (by kernel_rfl) (by kernel_rfl) (by kernel_rfl) (by rfl) (fun W hW => ?_) ?_; (obtain ⟨k1, k2, k3, k4, k5, k6, k7, k8, k9, k10⟩ := hW;  go_simp; exact comes_c ( T1.out _) (fun wn hbn => held4 ⟨k1, k2, k3, k4, k5, k6, k7, k8, k9, k10⟩ hbn)))
    (try simp only [Act.put, List.setIfInBounds_toArray, List.set_cons_zero, List.set_cons_succ])
    first | refine wpB_skip 4 rfl (by kernel_rfl) (by kernel_rfl) (by kernel_rfl) (by rfl) ?_ | (refine wpB_text 4 (v := ?_) rfl (by kernel_rfl) (by kernel_rfl) (by kernel_rfl) (by rfl) (fun W hW => ?_) ?_; rotate_left; (obtain ⟨k1, k2, k3, k4, k5, k6, k7, k8, k9, k10⟩ := hW;  go_simp; refine comes_v ?_; exact ⟨k1, k2, k3, k4, k5, k6, k7, k8, k9, k10⟩))
    (try simp only [Act.put, List.setIfInBounds_toArray, List.set_cons_zero, List.set_cons_succ])
    first | refine wpB_skip 5 rfl (by kernel_rfl) (by kernel_rfl) (by kernel_rfl) (by rfl) ?_ | (refine wpB_text 5 (v := ?_) rfl (by kernel_rfl) (by kernel_rfl) (by kernel_rfl) (by rfl) (fun W hW => ?_) ?_; rotate_left; (obtain ⟨k1, k2, k3, k4, k5, k6, k7, k8, k9, k10⟩ := hW;  go_simp; refine comes_v ?_; exact ⟨k1, k2, k3, k4, k5, k6, k7, k8, k9, k10⟩))
    (try simp only [Act.put, List.setIfInBounds_toArray, List.set_cons_zero, List.set_cons_succ])
    first | refine wpB_skip 6 rfl (by kernel_rfl) (by kernel_rfl) (by kernel_rfl) (by rfl) ?_ | (refine wpB_text 6 (v := ?_) rfl (by kernel_rfl) (by kernel_rfl) (by kernel_rfl) (by rfl) (fun W hW => ?_) ?_; rotate_left; (obtain ⟨k1, k2, k3, k4, k5, k6, k7, k8, k9, k10⟩ := hW;  go_simp; refine comes_v ?_; exact ⟨k1, k2, k3, k4, k5, k6, k7, k8, k9, k10⟩))
    (try simp only [Act.put, List.setIfInBounds_toArray, List.set_cons_zero, List.set_cons_succ])
    first | refine wpB_skip 7 rfl (by kernel_rfl) (by kernel_rfl) (by kernel_rfl) (by rfl) ?_ | (refine wpB_text 7 (v := .int .i64 t2) rfl (by kernel_rfl) (by kernel_rfl) (by kernel_rfl) (by rfl) (fun W hW => ?_) ?_; (obtain ⟨k1, k2, k3, k4, k5, k6, k7, k8, k9, k10⟩ := hW;  go_simp; exact comes_c ( T2.out _) (fun wn hbn => held4 ⟨k1, k2, k3, k4, k5, k6, k7, k8, k9, k10⟩ hbn)))
    (try simp only [Act.put, List.setIfInBounds_toArray, List.set_cons_zero, List.set_cons_succ])
    first | refine wpB_skip 8 rfl (by kernel_rfl) (by kernel_rfl) (by kernel_rfl) (by rfl) ?_ | (refine wpB_text 8 (v := ?_) rfl (by kernel_rfl) (by kernel_rfl) (by kernel_rfl) (by rfl) (fun W hW => ?_) ?_; rotate_left; (obtain ⟨k1, k2, k3, k4, k5, k6, k7, k8, k9, k10⟩ := hW;  go_simp; refine comes_v ?_; exact ⟨k1, k2, k3, k4, k5, k6, k7, k8, k9, k10⟩))
    (try simp only [Act.put, List.setIfInBounds_toArray, List.set_cons_zero, List.set_cons_succ])
    first | refine wpB_skip 9 rfl (by kernel_rfl) (by kernel_rfl) (by kernel_rfl) (by rfl) ?_ | (refine wpB_text 9 (v := ?_) rfl (by kernel_rfl) (by kernel_rfl) (by kernel_rfl) (by rfl) (fun W hW => ?_) ?_; rotate_left; (obtain ⟨k1, k2, k3, k4, k5, k6, k7, k8, k9, k10⟩ := hW;  go_simp; refine comes_v ?_; exact ⟨k1, k2, k3, k4, k5, k6, k7, k8, k9, k10⟩))
    (try simp only [Act.put, List.setIfInBounds_toArray, List.set_cons_zero, List.set_cons_succ])
    first | refine wpB_skip 10 rfl (by kernel_rfl) (by kernel_rfl) (by kernel_rfl) (by rfl) ?_ | (refine wpB_text 10 (v := ?_) rfl (by kernel_rfl) (by kernel_rfl) (by kernel_rfl) (by rfl) (fun W hW => ?_) ?_; rotate_left; (obtain ⟨k1, k2, k3, k4, k5, k6, k7, k8, k9, k10⟩ := hW;  go_simp; refine comes_v ?_; exact ⟨k1, k2, k3, k4, k5, k6, k7, k8, k9, k10⟩))
    (try simp only [Act.put, List.setIfInBounds_toArray, List.set_cons_zero, List.set_cons_succ])
    first | refine wpB_skip 11 rfl (by kernel_rfl) (by kernel_rfl) (by kernel_rfl) (by rfl) ?_ | (refine wpB_text 11 (v := ?_) rfl (by kernel_rfl) (by kernel_rfl) (by kernel_rfl) (by rfl) (fun W hW => ?_) ?_; rotate_left; (obtain ⟨k1, k2, k3, k4, k5, k6, k7, k8, k9, k10⟩ := hW;  go_simp; refine comes_v ?_; exact ⟨k1, k2, k3, k4, k5, k6, k7, k8, k9, k10⟩))
    (try simp only [Act.put, List.setIfInBounds_toArray, List.set_cons_zero, List.set_cons_succ])
    first | refine wpB_skip 12 rfl (by kernel_rfl) (by kernel_rfl) (by kernel_rfl) (by rfl) ?_ | (refine wpB_text 12 (v := ?_) rfl (by kernel_rfl) (by kernel_rfl) (by kernel_rfl) (by rfl) (fun W hW => ?_) ?_; rotate_left; (obtain ⟨k1, k2, k3, k4, k5, k6, k7, k8, k9, k10⟩ := hW;  go_simp; refine comes_v ?_; exact ⟨k1, k2, k3, k4, k5, k6, k7, k8, k9, k10⟩))
    (try simp only [Act.put, List.setIfInBounds_toArray, List.set_cons_zero, List.set_cons_succ])
    first | refine wpB_skip 13 rfl (by kernel_rfl) (by kernel_rfl) (by kernel_rfl) (by rfl) ?_ | (refine wpB_text 13 (v := ?_) rfl (by kernel_rfl) (by kernel_rfl) (by kernel_rfl) (by rfl) (fun W hW => ?_) ?_; rotate_left; (obtain ⟨k1, k2, k3, k4, k5, k6, k7, k8, k9, k10⟩ := hW;  go_simp; refine comes_v ?_; exact ⟨k1, k2, k3, k4, k5, k6, k7, k8, k9, k10⟩))
    (try simp only [Act.put, List.setIfInBounds_toArray, List.set_cons_zero, List.set_cons_succ])
    first | refine wpB_skip 14 rfl (by kernel_rfl) (by kernel_rfl) (by kernel_rfl) (by rfl) ?_ | (refine wpB_text 14 (v := .int .i64 t3) rfl (by kernel_rfl) (by kernel_rfl) (by kernel_rfl) (by rfl) (fun W hW => ?_) ?_; (obtain ⟨k1, k2, k3, k4, k5, k6, k7, k8, k9, k10⟩ := hW;  go_simp; exact comes_c ( T3.out _) (fun wn hbn => held4 ⟨k1, k2, k3, k4, k5, k6, k7, k8, k9, k10⟩ hbn)))
    (try simp only [Act.put, List.setIfInBounds_toArray, List.set_cons_zero, List.set_cons_succ])
    first | refine wpB_skip 15 rfl (by kernel_rfl) (by kernel_rfl) (by kernel_rfl) (by rfl) ?_ | (refine wpB_text 15 (v := ?_) rfl (by kernel_rfl) (by kernel_rfl) (by kernel_rfl) (by rfl) (fun W hW => ?_) ?_; rotate_left; (obtain ⟨k1, k2, k3, k4, k5, k6, k7, k8, k9, k10⟩ := hW;  go_simp; refine comes_v ?_; exact ⟨k1, k2, k3, k4, k5, k6, k7, k8, k9, k10⟩))
    (try simp only [Act.put, List.setIfInBounds_toArray, List.set_cons_zero, List.set_cons_succ])
    first | refine wpB_skip 16 rfl (by kernel_rfl) (by kernel_rfl) (by kernel_rfl) (by rfl) ?_ | (refine wpB_text 16 (v := ?_) rfl (by kernel_rfl) (by kernel_rfl) (by kernel_rfl) (by rfl) (fun W hW => ?_) ?_; rotate_left; (obtain ⟨k1, k2, k3, k4, k5, k6, k7, k8, k9, k10⟩ := hW;  go_simp; refine comes_v ?_; exact ⟨k1, k2, k3, k4, k5, k6, k7, k8, k9, k10⟩))
    (try simp only [Act.put, List.setIfInBounds_toArray, List.set_cons_zero, List.set_cons_succ])
    first | refine wpB_skip 17 rfl (by kernel_rfl) (by kernel_rfl) (by kernel_rfl) (by rfl) ?_ | (refine wpB_text 17 (v := ?_) rfl (by kernel_rfl) (by kernel_rfl) (by kernel_rfl) (by rfl) (fun W hW => ?_) ?_; rotate_left; (obtain ⟨k1, k2, k3, k4, k5, k6, k7, k8, k9, k10⟩ := hW;  go_simp; refine comes_v ?_; exact ⟨k1, k2, k3, k4, k5, k6, k7, k8, k9, k10⟩))
    (try simp only [Act.put, List.setIfInBounds_toArray, List.set_cons_zero, List.set_cons_succ])
    first | refine wpB_skip 18 rfl (by kernel_rfl) (by kernel_rfl) (by kernel_rfl) (by rfl) ?_ | (refine wpB_text 18 (v := .int .i64 t4) rfl (by kernel_rfl) (by kernel_rfl) (by kernel_rfl) (by rfl) (fun W hW => ?_) ?_; (obtain ⟨k1, k2, k3, k4, k5, k6, k7, k8, k9, k10⟩ := hW;  go_simp; exact comes_c ( T4.out _) (fun wn hbn => held4 ⟨k1, k2, k3, k4, k5, k6, k7, k8, k9, k10⟩ hbn)))
    (try simp only [Act.put, List.setIfInBounds_toArray, List.set_cons_zero, List.set_cons_succ])
    first | refine wpB_skip 19 rfl (by kernel_rfl) (by kernel_rfl) (by kernel_rfl) (by rfl) ?_ | (refine wpB_text 19 (v := ?_) rfl (by kernel_rfl) (by kernel_rfl) (by kernel_rfl) (by rfl) (fun W hW => ?_) ?_; rotate_left; (obtain ⟨k1, k2, k3, k4, k5, k6, k7, k8, k9, k10⟩ := hW;  go_simp; refine comes_v ?_; exact ⟨k1, k2, k3, k4, k5, k6, k7, k8, k9, k10⟩))
    (try simp only [Act.put, List.setIfInBounds_toArray, List.set_cons_zero, List.set_cons_succ])
    first | refine wpB_skip 20 rfl (by kernel_rfl) (by kernel_rfl) (by kernel_rfl) (by rfl) ?_ | (refine wpB_text 20 (v := ?_) rfl (by kernel_rfl) (by kernel_rfl) (by kernel_rfl) (by rfl) (fun W hW => ?_) ?_; rotate_left; (obtain ⟨k1, k2, k3, k4, k5, k6, k7, k8, k9, k10⟩ := hW;  go_simp; refine comes_v ?_; exact ⟨k1, k2, k3, k4, k5, k6, k7, k8, k9, k10⟩))
    (try simp only [Act.put, List.setIfInBounds_toArray, List.set_cons_zero, List.set_cons_succ])
    first | refine wpB_skip 21 rfl (by kernel_rfl) (by kernel_rfl) (by kernel_rfl) (by rfl) ?_ | (refine wpB_text 21 (v := ?_) rfl (by kernel_rfl) (by kernel_rfl) (by kernel_rfl) (by rfl) (fun W hW => ?_) ?_; rotate_left; (obtain ⟨k1, k2, k3, k4, k5, k6, k7, k8, k9, k10⟩ := hW;  go_simp; refine comes_v ?_; exact ⟨k1, k2, k3, k4, k5, k6, k7, k8, k9, k10⟩))
    (try simp only [Act.put, List.setIfInBounds_toArray, List.set_cons_zero, List.set_cons_succ])
    first | refine wpB_skip 22 rfl (by kernel_rfl) (by kernel_rfl) (by kernel_rfl) (by rfl) ?_ | (refine wpB_text 22 (v := ?_) rfl (by kernel_rfl) (by kernel_rfl) (by kernel_rfl) (by rfl) (fun W hW => ?_) ?_; rotate_left; (obtain ⟨k1, k2, k3, k4, k5, k6, k7, k8, k9, k10⟩ := hW;  go_simp; refine comes_v ?_; exact ⟨k1, k2, k3, k4, k5, k6, k7, k8, k9, k10⟩))
    (try simp only [Act.put, List.setIfInBounds_toArray, List.set_cons_zero, List.set_cons_succ])
    refine wpB_done (by kernel_rfl) ?_ _
    intro W hW; obtain ⟨k1, k2, k3, k4, k5, k6, k7, k8, k9, k10⟩ := hW
    clear e1 e2
    go_wp2_with fail
    go_ret
    exact ⟨ret_bool (by simp [hm]), k1⟩
theorem linesMeet_any (a1 a2 b1 b2 c1 c2 d1 d2 : Int) (w : World) (pa : isPegB a1 a2 = true) (pb : isPegB b1 b2 = true) (pc : isPegB c1 c2 = true) (pd : isPegB d1 d2 = true) :
    Calls Try.prog 125 #[.agg #[.int .i64 a1, .int .i64 a2], .agg #[.int .i64 b1, .int .i64 b2], .agg #[.int .i64 c1, .int .i64 c2], .agg #[.int .i64 d1, .int .i64 d2]] w fun e w' => e = .returned (.bool (meetB a1 a2 b1 b2 c1 c2 d1 d2)) ∧ Below w.heap.size w w' := by
  have ha := sz_of pa
  have hb := sz_of pb
  have hc := sz_of pc
  have hd := sz_of pd
  have K1 := Lib.hid (fun W => isBetween_any a1 a2 c1 c2 d1 d2 W ha hc hd)
  have K2 := Lib.hid (fun W => isBetween_any b1 b2 c1 c2 d1 d2 W hb hc hd)
  have K3 := Lib.hid (fun W => isBetween_any c1 c2 a1 a2 b1 b2 W hc ha hb)
  have K4 := Lib.hid (fun W => isBetween_any d1 d2 a1 a2 b1 b2 W hd ha hb)
  have KX := Lib.hid (fun W => linesCross_any a1 a2 b1 b2 c1 c2 d1 d2 W pa pb pc pd)
  clear ha hb hc hd pa pb pc pd
  have eq : meetB a1 a2 b1 b2 c1 c2 d1 d2 = (onB c1 c2 d1 d2 a1 a2 || onB c1 c2 d1 d2 b1 b2 || onB a1 a2 b1 b2 c1 c2 || onB a1 a2 b1 b2 d1 d2 ||
      (decide (twI a1 a2 b1 b2 c1 c2 * twI a1 a2 b1 b2 d1 d2 < 0) && decide (twI c1 c2 d1 d2 a1 a2 * twI c1 c2 d1 d2 b1 b2 < 0))) := by
    unfold meetB; rw [Bool.decide_and]
    generalize onB a1 a2 b1 b2 c1 c2 = o1
    generalize onB a1 a2 b1 b2 d1 d2 = o2
    generalize onB c1 c2 d1 d2 a1 a2 = o3
    generalize onB c1 c2 d1 d2 b1 b2 = o4
    cases o1 <;> cases o2 <;> cases o3 <;> cases o4 <;> rfl
  rw [eq]
  clear eq
  generalize twI a1 a2 b1 b2 c1 c2 = t1 at *
  generalize twI a1 a2 b1 b2 d1 d2 = t2 at *
  generalize twI c1 c2 d1 d2 a1 a2 = t3 at *
  generalize twI c1 c2 d1 d2 b1 b2 = t4 at *
  generalize onB c1 c2 d1 d2 a1 a2 = o1 at *
  generalize onB c1 c2 d1 d2 b1 b2 = o2 at *
  generalize onB a1 a2 b1 b2 c1 c2 = o3 at *
  generalize onB a1 a2 b1 b2 d1 d2 = o4 at *
  cases o1
  · go_enter Try.func125, Try.ntmps125
    go_wp2_with fail
    refine (K1.out _).mono ?_; rintro e w1 ⟨rfl, hb1⟩
    obtain ⟨hc1, hf1⟩ := bcell hb1
    have z1_0 : w.heap.size < w1.heap.size := by (have := hb1.size; simp at this; omega)
    have z1_1 : w.heap.size + 1 < w1.heap.size := by (have := hb1.size; simp at this; omega)
    have z1_2 : w.heap.size + 2 < w1.heap.size := by (have := hb1.size; simp at this; omega)
    have z1_3 : w.heap.size + 3 < w1.heap.size := by (have := hb1.size; simp at this; omega)
    have B1 : Below w.heap.size w w1 := (Below.alloc (Below.alloc (Below.alloc (Below.alloc (Below.refl _ _) (by simp <;> omega) _) (by simp <;> omega) _) (by simp <;> omega) _) (by simp <;> omega) _).trans (hb1.mono (by simp <;> omega))
    go_wp2_with fail
    cases o2
    · refine (K2.out _).mono ?_; rintro e w2 ⟨rfl, hb2⟩
      obtain ⟨hc2, hf2⟩ := bcell hb2
      have z2_0 : w.heap.size < w2.heap.size := by (have := hb2.size; omega)
      have z2_1 : w.heap.size + 1 < w2.heap.size := by (have := hb2.size; omega)
      have z2_2 : w.heap.size + 2 < w2.heap.size := by (have := hb2.size; omega)
      have z2_3 : w.heap.size + 3 < w2.heap.size := by (have := hb2.size; omega)
      have B2 : Below w.heap.size w w2 := B1.trans (hb2.mono (by have := B1.size; omega))
      go_wp2_with fail
      cases o3
      · refine (K3.out _).mono ?_; rintro e w3 ⟨rfl, hb3⟩
        obtain ⟨hc3, hf3⟩ := bcell hb3
        have z3_0 : w.heap.size < w3.heap.size := by (have := hb3.size; omega)
        have z3_1 : w.heap.size + 1 < w3.heap.size := by (have := hb3.size; omega)
        have z3_2 : w.heap.size + 2 < w3.heap.size := by (have := hb3.size; omega)
        have z3_3 : w.heap.size + 3 < w3.heap.size := by (have := hb3.size; omega)
        have B3 : Below w.heap.size w w3 := B2.trans (hb3.mono (by have := B2.size; omega))
        go_wp2_with fail
        cases o4
        · refine (K4.out _).mono ?_; rintro e w4 ⟨rfl, hb4⟩
          obtain ⟨hc4, hf4⟩ := bcell hb4
          have z4_0 : w.heap.size < w4.heap.size := by (have := hb4.size; omega)
          have z4_1 : w.heap.size + 1 < w4.heap.size := by (have := hb4.size; omega)
          have z4_2 : w.heap.size + 2 < w4.heap.size := by (have := hb4.size; omega)
          have z4_3 : w.heap.size + 3 < w4.heap.size := by (have := hb4.size; omega)
          have B4 : Below w.heap.size w w4 := B3.trans (hb4.mono (by have := B3.size; omega))
          go_wp2_with fail
          refine (KX.out _).mono ?_; rintro e w5 ⟨rfl, hb5⟩
          obtain ⟨hc5, hf5⟩ := bcell hb5
          have z5_0 : w.heap.size < w5.heap.size := by (have := hb5.size; omega)
          have z5_1 : w.heap.size + 1 < w5.heap.size := by (have := hb5.size; omega)
          have z5_2 : w.heap.size + 2 < w5.heap.size := by (have := hb5.size; omega)
          have z5_3 : w.heap.size + 3 < w5.heap.size := by (have := hb5.size; omega)
          have B5 : Below w.heap.size w w5 := B4.trans (hb5.mono (by have := B4.size; omega))
          go_wp2_with fail
          go_ret
          exact ⟨rfl, B5⟩
        · refine (K4.out _).mono ?_; rintro e w4 ⟨rfl, hb4⟩
          obtain ⟨hc4, hf4⟩ := bcell hb4
          have z4_0 : w.heap.size < w4.heap.size := by (have := hb4.size; omega)
          have z4_1 : w.heap.size + 1 < w4.heap.size := by (have := hb4.size; omega)
          have z4_2 : w.heap.size + 2 < w4.heap.size := by (have := hb4.size; omega)
          have z4_3 : w.heap.size + 3 < w4.heap.size := by (have := hb4.size; omega)
          have B4 : Below w.heap.size w w4 := B3.trans (hb4.mono (by have := B3.size; omega))
          go_wp2_with fail
          go_ret
          exact ⟨rfl, B4⟩
      · refine (K3.out _).mono ?_; rintro e w3 ⟨rfl, hb3⟩
        obtain ⟨hc3, hf3⟩ := bcell hb3
        have z3_0 : w.heap.size < w3.heap.size := by (have := hb3.size; omega)
        have z3_1 : w.heap.size + 1 < w3.heap.size := by (have := hb3.size; omega)
        have z3_2 : w.heap.size + 2 < w3.heap.size := by (have := hb3.size; omega)
        have z3_3 : w.heap.size + 3 < w3.heap.size := by (have := hb3.size; omega)
        have B3 : Below w.heap.size w w3 := B2.trans (hb3.mono (by have := B2.size; omega))
        go_wp2_with fail
        go_ret
        exact ⟨rfl, B3⟩
    · refine (K2.out _).mono ?_; rintro e w2 ⟨rfl, hb2⟩
      obtain ⟨hc2, hf2⟩ := bcell hb2
      have z2_0 : w.heap.size < w2.heap.size := by (have := hb2.size; omega)
      have z2_1 : w.heap.size + 1 < w2.heap.size := by (have := hb2.size; omega)
      have z2_2 : w.heap.size + 2 < w2.heap.size := by (have := hb2.size; omega)
      have z2_3 : w.heap.size + 3 < w2.heap.size := by (have := hb2.size; omega)
      have B2 : Below w.heap.size w w2 := B1.trans (hb2.mono (by have := B1.size; omega))
      go_wp2_with fail
      go_ret
      exact ⟨rfl, B2⟩
  · go_enter Try.func125, Try.ntmps125
    go_wp2_with fail
    refine (K1.out _).mono ?_; rintro e w1 ⟨rfl, hb1⟩
    obtain ⟨hc1, hf1⟩ := bcell hb1
    have z1_0 : w.heap.size < w1.heap.size := by (have := hb1.size; simp at this; omega)
    have z1_1 : w.heap.size + 1 < w1.heap.size := by (have := hb1.size; simp at this; omega)
    have z1_2 : w.heap.size + 2 < w1.heap.size := by (have := hb1.size; simp at this; omega)
    have z1_3 : w.heap.size + 3 < w1.heap.size := by (have := hb1.size; simp at this; omega)
    have B1 : Below w.heap.size w w1 := (Below.alloc (Below.alloc (Below.alloc (Below.alloc (Below.refl _ _) (by simp <;> omega) _) (by simp <;> omega) _) (by simp <;> omega) _) (by simp <;> omega) _).trans (hb1.mono (by simp <;> omega))
    go_wp2_with fail
    go_ret
    exact ⟨rfl, B1⟩
end Go.Proofs.Ytheddoinnakneaa
/- contracts: a corner's turn; two lines of a polygon that cross -/
namespace Go.Proofs.Ytheddoinnakneaa
open Go.ChangeShapes Go.WideShapes Go.ChangeAt Go.RowKit Go.Joins
set_option linter.unusedVariables false
set_option linter.unusedSimpArgs false
set_option maxRecDepth 4000
theorem turn_any (p1 p2 b1 b2 c1 c2 : Int) (w : World) (hp : Sz p1 p2) (hb : Sz b1 b2) (hc : Sz c1 c2) :
    Calls Try.prog 88 #[.agg #[.int .i64 p1, .int .i64 p2, .int .i64 b1, .int .i64 b2, .int .i64 c1, .int .i64 c2]] w fun e w' => e = .returned (.int .i64 (twI b1 b2 p1 p2 c1 c2)) ∧ Below w.heap.size w w' := by
  have K := Lib.hid (fun W => twiceThree_any b1 b2 p1 p2 c1 c2 W hb hp hc)
  go_enter Try.func88, Try.ntmps88
  go_wp2_with fail
  refine (K.out _).mono ?_; rintro e w1 ⟨rfl, hb1⟩
  obtain ⟨hc1, hf1⟩ := bcell hb1
  have z1_0 : w.heap.size < w1.heap.size := by (have := hb1.size; simp at this; omega)
  have B1 : Below w.heap.size w w1 := (Below.alloc (Below.refl _ _) (by simp <;> omega) _).trans (hb1.mono (by simp <;> omega))
  go_wp2_with fail
  go_ret
  exact ⟨rfl, B1⟩
/-- two lines, each from a corner to the one behind it, cross: lines next to each other are left out -/
def crB (p1 p2 c1 c2 q1 q2 d1 d2 : Int) : Bool := !(decide (c1 = q1) && decide (c2 = q2)) && !(decide (d1 = p1) && decide (d2 = p2)) && meetB p1 p2 c1 c2 q1 q2 d1 d2
theorem isCrossing_any (p1 p2 b1 b2 c1 c2 q1 q2 a1 a2 d1 d2 : Int) (w : World) (hp : isPegB p1 p2 = true) (hc : isPegB c1 c2 = true) (hq : isPegB q1 q2 = true) (hd : isPegB d1 d2 = true) :
    Calls Try.prog 89 #[.agg #[.int .i64 p1, .int .i64 p2, .int .i64 b1, .int .i64 b2, .int .i64 c1, .int .i64 c2], .agg #[.int .i64 q1, .int .i64 q2, .int .i64 a1, .int .i64 a2, .int .i64 d1, .int .i64 d2]] w fun e w' => e = .returned (.bool (crB p1 p2 c1 c2 q1 q2 d1 d2)) ∧ Below w.heap.size w w' := by
  have K := Lib.hid (fun W => linesMeet_any p1 p2 c1 c2 q1 q2 d1 d2 W hp hc hq hd)
  clear hp hc hq hd
  by_cases h1 : c1 = q1 ∧ c2 = q2
  · obtain ⟨rfl, rfl⟩ := h1
    go_enter Try.func89, Try.ntmps89
    go_wp2_with fail
    go_ret
    exact ⟨ret_bool (by simp [crB]), (by repeat (first | exact Below.refl _ _ | assumption | apply Below.drew | refine Below.alloc ?_ (by simp <;> omega) _))⟩
  · by_cases h2 : d1 = p1 ∧ d2 = p2
    · obtain ⟨rfl, rfl⟩ := h2
      by_cases h3 : c1 = q1
      · have h4 : ¬ c2 = q2 := fun h => h1 ⟨h3, h⟩
        subst h3
        clear h1
        go_enter Try.func89, Try.ntmps89
        go_wp2_with fail
        go_ret
        exact ⟨ret_bool (by simp [crB]), (by repeat (first | exact Below.refl _ _ | assumption | apply Below.drew | refine Below.alloc ?_ (by simp <;> omega) _))⟩
      · clear h1
        go_enter Try.func89, Try.ntmps89
        go_wp2_with fail
        go_ret
        exact ⟨ret_bool (by simp [crB]), (by repeat (first | exact Below.refl _ _ | assumption | apply Below.drew | refine Below.alloc ?_ (by simp <;> omega) _))⟩
    · have e : crB p1 p2 c1 c2 q1 q2 d1 d2 = meetB p1 p2 c1 c2 q1 q2 d1 d2 := by
        have x1 : (decide (c1 = q1) && decide (c2 = q2)) = false := by simpa using h1
        have x2 : (decide (d1 = p1) && decide (d2 = p2)) = false := by simpa using h2
        unfold crB; rw [x1, x2]; rfl
      rw [e]
      clear e
      generalize meetB p1 p2 c1 c2 q1 q2 d1 d2 = m at *
      by_cases h3 : c1 = q1 <;> by_cases h4 : d1 = p1
      · have h5 : ¬ c2 = q2 := fun h => h1 ⟨h3, h⟩
        have h6 : ¬ d2 = p2 := fun h => h2 ⟨h4, h⟩
        subst h3 h4
        clear h1 h2
        go_enter Try.func89, Try.ntmps89
        go_wp2_with fail
        refine (K.out _).mono ?_; rintro e w1 ⟨rfl, hb1⟩
        obtain ⟨hc1, hf1⟩ := bcell hb1
        have z1_0 : w.heap.size < w1.heap.size := by (have := hb1.size; simp at this; omega)
        have z1_1 : w.heap.size + 1 < w1.heap.size := by (have := hb1.size; simp at this; omega)
        have B1 : Below w.heap.size w w1 := (Below.alloc (Below.alloc (Below.refl _ _) (by simp <;> omega) _) (by simp <;> omega) _).trans (hb1.mono (by simp <;> omega))
        go_wp2_with fail
        go_ret
        exact ⟨rfl, B1⟩
      · have h5 : ¬ c2 = q2 := fun h => h1 ⟨h3, h⟩
        subst h3
        clear h1 h2
        go_enter Try.func89, Try.ntmps89
        go_wp2_with fail
        refine (K.out _).mono ?_; rintro e w1 ⟨rfl, hb1⟩
        obtain ⟨hc1, hf1⟩ := bcell hb1
        have z1_0 : w.heap.size < w1.heap.size := by (have := hb1.size; simp at this; omega)
        have z1_1 : w.heap.size + 1 < w1.heap.size := by (have := hb1.size; simp at this; omega)
        have B1 : Below w.heap.size w w1 := (Below.alloc (Below.alloc (Below.refl _ _) (by simp <;> omega) _) (by simp <;> omega) _).trans (hb1.mono (by simp <;> omega))
        go_wp2_with fail
        go_ret
        exact ⟨rfl, B1⟩
      · have h6 : ¬ d2 = p2 := fun h => h2 ⟨h4, h⟩
        subst h4
        clear h1 h2
        go_enter Try.func89, Try.ntmps89
        go_wp2_with fail
        refine (K.out _).mono ?_; rintro e w1 ⟨rfl, hb1⟩
        obtain ⟨hc1, hf1⟩ := bcell hb1
        have z1_0 : w.heap.size < w1.heap.size := by (have := hb1.size; simp at this; omega)
        have z1_1 : w.heap.size + 1 < w1.heap.size := by (have := hb1.size; simp at this; omega)
        have B1 : Below w.heap.size w w1 := (Below.alloc (Below.alloc (Below.refl _ _) (by simp <;> omega) _) (by simp <;> omega) _).trans (hb1.mono (by simp <;> omega))
        go_wp2_with fail
        go_ret
        exact ⟨rfl, B1⟩
      · clear h1 h2
        go_enter Try.func89, Try.ntmps89
        go_wp2_with fail
        refine (K.out _).mono ?_; rintro e w1 ⟨rfl, hb1⟩
        obtain ⟨hc1, hf1⟩ := bcell hb1
        have z1_0 : w.heap.size < w1.heap.size := by (have := hb1.size; simp at this; omega)
        have z1_1 : w.heap.size + 1 < w1.heap.size := by (have := hb1.size; simp at this; omega)
        have B1 : Below w.heap.size w w1 := (Below.alloc (Below.alloc (Below.refl _ _) (by simp <;> omega) _) (by simp <;> omega) _).trans (hb1.mono (by simp <;> omega))
        go_wp2_with fail
        go_ret
        exact ⟨rfl, B1⟩
end Go.Proofs.Ytheddoinnakneaa
/- contract: the program's test of a polygon -/
namespace Go.Proofs.Ytheddoinnakneaa
open Go.ChangeShapes Go.WideShapes Go.ChangeAt Go.RowKit Go.Joins
set_option linter.unusedVariables false
set_option linter.unusedSimpArgs false
set_option maxRecDepth 4000
theorem onB_or (a b c d e : Bool) : (a || b || c || d || e) = (c || d || a || b || e) := by cases a <;> cases b <;> cases c <;> cases d <;> rfl
theorem meetB_comm (a1 a2 b1 b2 c1 c2 d1 d2 : Int) : meetB a1 a2 b1 b2 c1 c2 d1 d2 = meetB c1 c2 d1 d2 a1 a2 b1 b2 := by
  unfold meetB; rw [onB_or]; congr 1; rw [decide_eq_decide]; exact And.comm
theorem meP_comm (a b c d : Int × Int) : meP a b c d = meP c d a b := meetB_comm ..
theorem vx_add (l : List (Int × Int)) (i : Nat) : vx l (i + l.length) = vx l i := by unfold vx; rw [Nat.add_mod_right]
def crP (p c q d : Int × Int) : Bool := crB p.1 p.2 c.1 c.2 q.1 q.2 d.1 d.2
theorem crP_iff (p c q d : Int × Int) : crP p c q d = false ↔ (c = q ∨ d = p ∨ meP p c q d = false) := by
  unfold crP crB meP
  have e1 : c = q ↔ c.1 = q.1 ∧ c.2 = q.2 := ⟨fun h => by rw [h]; exact ⟨rfl, rfl⟩, fun h => Prod.ext h.1 h.2⟩
  have e2 : d = p ↔ d.1 = p.1 ∧ d.2 = p.2 := ⟨fun h => by rw [h]; exact ⟨rfl, rfl⟩, fun h => Prod.ext h.1 h.2⟩
  rw [e1, e2]
  generalize meetB p.1 p.2 c.1 c.2 q.1 q.2 d.1 d.2 = m
  by_cases h1 : c.1 = q.1 <;> by_cases h2 : c.2 = q.2 <;> by_cases h3 : d.1 = p.1 <;> by_cases h4 : d.2 = p.2 <;> simp [h1, h2, h3, h4]
/-- what the program looks at, corner by corner -/
def Seen (l : List (Int × Int)) (k : Nat) : Prop := ∀ i, i < k → twP (vx l (i + l.length - 1)) (vx l i) (vx l (i + 1)) ≠ 0 ∧ ∀ j, j < i → vx l i ≠ vx l j ∧ crP (vx l i) (vx l (i + 1)) (vx l j) (vx l (j + 1)) = false
theorem good_seen {l : List (Int × Int)} (h : Good l) : Seen l l.length := by
  intro i hi
  have hn := h.few.1
  refine ⟨?_, fun j hj => ⟨h.diff i j hj hi, ?_⟩⟩
  · by_cases h0 : i = 0
    · subst h0
      have := h.turn (l.length - 1) (by omega)
      rw [show l.length - 1 + 1 = 0 + l.length by omega, show l.length - 1 + 2 = 1 + l.length by omega, vx_add, vx_add] at this
      rw [show 0 + l.length - 1 = l.length - 1 by omega]; exact this
    · have := h.turn (i - 1) (by omega)
      rw [show i - 1 + 1 = i by omega, show i - 1 + 2 = i + 1 by omega] at this
      rw [show i + l.length - 1 = (i - 1) + l.length by omega, vx_add]; exact this
  · rw [crP_iff]
    by_cases h1 : j + 1 = i
    · right; left; rw [h1]
    · by_cases h2 : i + 1 = l.length ∧ j = 0
      · left; rw [h2.1, h2.2, show l.length = 0 + l.length by omega, vx_add]
      · right; right; rw [meP_comm]; exact h.apart j i (by omega) hi (by omega)
theorem seen_good {l : List (Int × Int)} (h0 : 3 ≤ l.length ∧ l.length ≤ 10) (hp : ∀ i, i < l.length → isPg (vx l i) = true) (h : Seen l l.length) : Good l := by
  have df : ∀ i j, j < i → i < l.length → vx l i ≠ vx l j := fun i j hj hi => ((h i hi).2 j hj).1
  refine ⟨h0, hp, df, fun i hi => ?_, fun i k hk hkn hki => ?_⟩
  · by_cases h1 : i + 1 = l.length
    · have := (h 0 (by omega)).1
      rw [show 0 + l.length - 1 = i by omega] at this
      rw [show i + 1 = 0 + l.length by omega, show i + 2 = 0 + 1 + l.length by omega, vx_add, vx_add]; exact this
    · have := (h (i + 1) (by omega)).1
      rw [show i + 1 + l.length - 1 = i + l.length by omega, vx_add] at this
      exact this
  · have := ((h k hkn).2 i (by omega)).2
    rw [crP_iff] at this
    rcases this with h1 | h1 | h1
    · by_cases h2 : k + 1 = l.length
      · rw [h2, show l.length = 0 + l.length by omega, vx_add] at h1
        by_cases h3 : i = 0
        · omega
        · exact absurd h1.symm (df i 0 (by omega) (by omega))
      · exact absurd h1 (df (k + 1) i (by omega) (by omega))
    · exact absurd h1.symm (df k (i + 1) (by omega) hkn)
    · rw [meP_comm]; exact h1
end Go.Proofs.Ytheddoinnakneaa

