/- joined: A B C D L E F R G H I Ml N K Z Ma Pz2 Pz3 Ki CiM Rt Pz1 Pz5 -/
import Derived.Test.YtacabmbajadbgaaRows
import Derived.WalkKit
import Derived.ProofKit
import Derived.OpenShut
import Derived.Outline
import Derived.Lib.SmallJoins
import Derived.Below
import Derived.Carry
import Derived.Lib.Hide
import Derived.OrdersHeld
import Derived.LoopTactic
import Derived.Deep.QuietTactic
import Derived.BigQuiet
import Derived.Laws.MakeOwn
import Derived.OwnWalk
import Derived.Deep.LoopGhost
import Derived.Deep.Slices
import Derived.Deep.Fields
import Derived.BigRegion
import Derived.WalkLawsBesides
import Derived.ChangeSlices
import Derived.StillTail
/- contracts of the small functions over pegs -/
namespace Go.Proofs.Ytacabmbajadbgaa
open Go.ChangeShapes Go.WideShapes Go.ChangeAt Go.RowKit Go.Joins
set_option linter.unusedVariables false

theorem l1In_any (n lo hi : Int) (w : World) :
    Calls Try.prog 55 #[.int .i64 n, .int .i64 lo, .int .i64 hi] w fun e w' => e = .returned (.bool (decide (lo ≤ n) && decide (n ≤ hi))) ∧ w = w' := by
  by_cases h1 : lo ≤ n <;> by_cases h2 : n ≤ hi
  all_goals
    go_enter Try.func55, Try.ntmps55
    go_wp2
    go_ret
    exact ⟨by simp [h1, h2], rfl⟩
end Go.Proofs.Ytacabmbajadbgaa
/- contracts of the small functions over pegs -/
namespace Go.Proofs.Ytacabmbajadbgaa
open Go.ChangeShapes Go.WideShapes Go.ChangeAt Go.RowKit Go.Joins
set_option linter.unusedVariables false
theorem bcell {W w1 : World} (hb : Below W.heap.size W w1) : (∀ b o, b < W.heap.size → w1.cell? ⟨b, o, none⟩ = W.cell? ⟨b, o, none⟩) ∧ (∀ b o, b < W.heap.size → w1.frozen? ⟨b, o, none⟩ = W.frozen? ⟨b, o, none⟩) :=
  ⟨fun b o h => hb.cell (p := ⟨b, o, none⟩) h, fun b o h => hb.frozen (p := ⟨b, o, none⟩) h⟩
/-- a peg's two numbers are of size 40 at most -/
def isPegB (x y : Int) : Bool := decide (-40 ≤ x) && decide (x ≤ 40) && (decide (-40 ≤ y) && decide (y ≤ 40))
end Go.Proofs.Ytacabmbajadbgaa
/- contracts of the small functions over pegs: turns, points on lines -/
namespace Go.Proofs.Ytacabmbajadbgaa
open Go.ChangeShapes Go.WideShapes Go.ChangeAt Go.RowKit Go.Joins
set_option linter.unusedVariables false
set_option linter.unusedSimpArgs false
set_option maxRecDepth 4000
theorem mul_bd {x y m n : Int} (h1 : -m ≤ x) (h2 : x ≤ m) (h3 : -n ≤ y) (h4 : y ≤ n) : -(m * n) ≤ x * y ∧ x * y ≤ m * n := by
  have hm : 0 ≤ m := by omega
  have hn : 0 ≤ n := by omega
  have a1 := Int.mul_nonneg (show 0 ≤ m - x by omega) (show 0 ≤ n - y by omega)
  have a2 := Int.mul_nonneg (show 0 ≤ m + x by omega) (show 0 ≤ n + y by omega)
  have a3 := Int.mul_nonneg (show 0 ≤ m - x by omega) (show 0 ≤ n + y by omega)
  have a4 := Int.mul_nonneg (show 0 ≤ m + x by omega) (show 0 ≤ n - y by omega)
  constructor <;> grind
/-- both numbers of a point are of size 100000 at most -/
def Sz (x y : Int) : Prop := -100000 ≤ x ∧ x ≤ 100000 ∧ -100000 ≤ y ∧ y ≤ 100000
theorem prod_bd {a b c d : Int} (ha : -100000 ≤ a ∧ a ≤ 100000) (hb : -100000 ≤ b ∧ b ≤ 100000) (hc : -100000 ≤ c ∧ c ≤ 100000) (hd : -100000 ≤ d ∧ d ≤ 100000) :
    -40000000000 ≤ (a - b) * (c - d) ∧ (a - b) * (c - d) ≤ 40000000000 :=
  mul_bd (m := 200000) (n := 200000) (by omega) (by omega) (by omega) (by omega)
/-- twice the area of a triangle, greater than 0 to the left -/
def twI (a1 a2 b1 b2 c1 c2 : Int) : Int := (b1 - a1) * (c2 - a2) - (b2 - a2) * (c1 - a1)
theorem ret_int {k : IntKind} {a b : Int} (h : a = b) : Ending.returned (.int k a) = .returned (.int k b) := by rw [h]
theorem ret_bool {a b : Bool} (h : a = b) : Ending.returned (.bool a) = .returned (.bool b) := by rw [h]
theorem pgTurn_any (a1 a2 b1 b2 c1 c2 : Int) (w : World) (ha : Sz a1 a2) (hb : Sz b1 b2) (hc : Sz c1 c2) :
    Calls Try.prog 118 #[.agg #[.int .i64 a1, .int .i64 a2], .agg #[.int .i64 b1, .int .i64 b2], .agg #[.int .i64 c1, .int .i64 c2]] w fun e w' => e = .returned (.int .i64 (twI a1 a2 b1 b2 c1 c2)) ∧ Below w.heap.size w w' := by
  obtain ⟨x1, x2, x3, x4⟩ := ha
  obtain ⟨x5, x6, x7, x8⟩ := hb
  obtain ⟨x9, x10, x11, x12⟩ := hc
  obtain ⟨p1, p2⟩ := prod_bd (a := b1) (b := a1) (c := c2) (d := a2) (by omega) (by omega) (by omega) (by omega)
  obtain ⟨p3, p4⟩ := prod_bd (a := b2) (b := a2) (c := c1) (d := a1) (by omega) (by omega) (by omega) (by omega)
  go_enter Try.func118, Try.ntmps118
  go_wp2
  go_ret
  exact ⟨ret_int (by unfold twI; omega), (by repeat (first | exact Below.refl _ _ | assumption | apply Below.drew | refine Below.alloc ?_ (by simp <;> omega) _))⟩
theorem twiceThree_any (a1 a2 b1 b2 c1 c2 : Int) (w : World) (ha : Sz a1 a2) (hb : Sz b1 b2) (hc : Sz c1 c2) :
    Calls Try.prog 129 #[.agg #[.int .i64 a1, .int .i64 a2], .agg #[.int .i64 b1, .int .i64 b2], .agg #[.int .i64 c1, .int .i64 c2]] w fun e w' => e = .returned (.int .i64 (twI a1 a2 b1 b2 c1 c2)) ∧ Below w.heap.size w w' := by
  obtain ⟨x1, x2, x3, x4⟩ := ha
  obtain ⟨x5, x6, x7, x8⟩ := hb
  obtain ⟨x9, x10, x11, x12⟩ := hc
  obtain ⟨p1, p2⟩ := prod_bd (a := b1) (b := a1) (c := c2) (d := a2) (by omega) (by omega) (by omega) (by omega)
  obtain ⟨p3, p4⟩ := prod_bd (a := c1) (b := a1) (c := b2) (d := a2) (by omega) (by omega) (by omega) (by omega)
  go_enter Try.func129, Try.ntmps129
  go_wp2
  go_ret
  exact ⟨ret_int (by unfold twI; rw [Int.mul_comm (c1 - a1)]), (by repeat (first | exact Below.refl _ _ | assumption | apply Below.drew | refine Below.alloc ?_ (by simp <;> omega) _))⟩
end Go.Proofs.Ytacabmbajadbgaa
/- contracts: a point of the laws' package made one of the program's; IsPeg on both sides -/
namespace Go.Proofs.Ytacabmbajadbgaa
open Go.ChangeShapes Go.WideShapes Go.ChangeAt Go.RowKit Go.Joins
set_option linter.unusedVariables false
set_option linter.unusedSimpArgs false
set_option maxRecDepth 4000
theorem toPeg_any (a1 a2 : Int) (w : World) :
    Calls Try.prog 37 #[.agg #[.int .i64 a1, .int .i64 a2]] w fun e w' => e = .returned (.agg #[.int .i64 a1, .int .i64 a2]) ∧ Below w.heap.size w w' := by
  go_enter Try.func37, Try.ntmps37
  go_wp2
  exact bodyPost_ret (v := .agg #[.int .i64 a1, .int .i64 a2]) (by simp [results, Try.results37, go_sem]) rfl ⟨rfl, (by repeat (first | exact Below.refl _ _ | assumption | apply Below.drew | refine Below.alloc ?_ (by simp <;> omega) _))⟩
end Go.Proofs.Ytacabmbajadbgaa
/- the last step of each law: it returned true, and nothing that was there has turned: so the arguments read as they did -/
namespace Go.Proofs.Ytacabmbajadbgaa
open Go.ChangeShapes Go.WideShapes Go.ChangeAt Go.RowKit Go.Joins
set_option linter.unusedVariables false
set_option linter.unusedSimpArgs false
set_option maxRecDepth 4000
theorem own : ownKnob Try.prog.godebug = none := by kernel_rfl
theorem laidOut : laidOutB Try.prog = true := by kernel_rfl
section
variable {H : Type} {enc : TypeId × Value → H}
theorem trods_stay {P : Program} (hl : laidOutB P = true) {W W' : World} (hb : Below W.heap.size W W') (ts : List TypeId) : ∀ (vs : List Value) (ds : List (DataW H)) (ps : List MemPlace), (∀ t ∈ ts, P.readableRec t = true ∧ t < P.types.size) →
    DataW.TrodAll enc P W 0 (fun _ => true) true ts vs ds ps → (∀ x ∈ ps, x.block < W.heap.size) →
    DataW.TrodAll enc P W' 0 (fun b => decide (b < W.heap.size)) true ts vs ds ps := by
  induction ts with
  | nil =>
    intro vs ds ps _ h _
    cases vs with
    | nil => cases ds with
      | nil => exact h
      | cons d ds => exact h.elim
    | cons v vs => exact h.elim
  | cons t ts ih =>
    intro vs ds ps ht h hl'
    cases vs with
    | nil => exact h.elim
    | cons v vs => cases ds with
      | nil => exact h.elim
      | cons d ds =>
        obtain ⟨p, q, h1, h2, rfl⟩ := h
        have hf := ht t (List.mem_cons_self ..)
        exact ⟨p, q, Below.trod hl hf.1 hf.2 h1 hb (fun x hx => hl' x (List.mem_append.2 (Or.inl hx))),
          ih vs ds q (fun t' h' => ht t' (List.mem_cons_of_mem _ h')) h2 (fun x hx => hl' x (List.mem_append.2 (Or.inr hx))), rfl⟩
theorem law_done {f : Func} {s : ChangeSpec} {W W' : World} {args : Array Value} {ds gs : List (DataW H)} {before : List MemPlace}
    (hW : DataW.Whole enc Try.prog f.params.toList s.vars false W args.toList ds gs before) (hv : s.vars = []) (hrt : f.resultTypes = #[4]) (hp : ∀ t ∈ f.params.toList, Try.prog.readableRec t = true ∧ t < Try.prog.types.size)
    (hs : s.fn H ds = { results := [.lit (.bool true)], args := ds }) (hb : Below W.heap.size W W') :
    s.post enc Try.prog f false true false false W args (.bool true) W' := by
  have hlt := hW.lt
  have hW0 := hW
  obtain ⟨p, q, hA, hV, rfl, _, _⟩ := hW0
  rw [hv] at hV
  obtain ⟨rfl, rfl⟩ := trodVars_none hV
  simp only [List.append_nil] at hW hlt
  refine ⟨ds, [], p, [], p, [], hW, ?_, ?_, ?_, hb.frame _, fun h => by cases h⟩
  · rw [List.append_nil, hs, hrt]
    exact trodAll_mk1 (shut_bool Try.underlying4 true)
  · rw [List.append_nil, hs]
    exact trods_stay laidOut hb _ _ _ _ hp hA hlt
  · rw [List.append_nil, hs, hv]
    exact rfl
end
theorem fine51 : Try.prog.readableRec 51 = true ∧ 51 < Try.prog.types.size := ⟨by kernel_rfl, of_decide_eq_true (by kernel_rfl)⟩
theorem cells51 : Try.prog.cellsOf 51 = 2 := by kernel_rfl
end Go.Proofs.Ytacabmbajadbgaa
/- contracts: lines between pegs, points on them, lines that meet -/
namespace Go.Proofs.Ytacabmbajadbgaa
open Go.ChangeShapes Go.WideShapes Go.ChangeAt Go.RowKit Go.Joins
set_option linter.unusedVariables false
set_option linter.unusedSimpArgs false
set_option maxRecDepth 4000
/-- the sign of a number -/
def sgn (n : Int) : Int := if 0 < n then 1 else if n < 0 then -1 else 0
/-- a point on the line between two -/
def onB (a1 a2 b1 b2 p1 p2 : Int) : Bool := decide (twI a1 a2 b1 b2 p1 p2 = 0) && decide ((a1 - p1) * (b1 - p1) ≤ 0) && decide ((a2 - p2) * (b2 - p2) ≤ 0)
end Go.Proofs.Ytacabmbajadbgaa
/- contracts: points on lines and lines that meet, on both sides -/
namespace Go.Proofs.Ytacabmbajadbgaa
open Go.ChangeShapes Go.WideShapes Go.ChangeAt Go.RowKit Go.Joins
set_option linter.unusedVariables false
set_option linter.unusedSimpArgs false
set_option maxRecDepth 4000
theorem between_iff (a b p : Int) : (a - p) * (b - p) ≤ 0 ↔ (min a b ≤ p ∧ p ≤ max a b) := by
  constructor
  · intro h
    rcases Int.lt_trichotomy a p with h1 | h1 | h1 <;> rcases Int.lt_trichotomy b p with h2 | h2 | h2
    all_goals first
      | omega
      | (have := Int.mul_pos_of_neg_of_neg (show a - p < 0 by omega) (show b - p < 0 by omega); omega)
      | (have := Int.mul_pos (show 0 < a - p by omega) (show 0 < b - p by omega); omega)
  · rintro ⟨h1, h2⟩
    rcases Int.le_total a b with h | h
    · have := Int.mul_nonneg (show 0 ≤ p - a by omega) (show 0 ≤ b - p by omega)
      have e : (p - a) * (b - p) = -((a - p) * (b - p)) := by rw [← Int.neg_mul]; congr 1; omega
      omega
    · have := Int.mul_nonneg (show 0 ≤ a - p by omega) (show 0 ≤ p - b by omega)
      have e : (a - p) * (p - b) = -((a - p) * (b - p)) := by rw [← Int.mul_neg]; congr 1; omega
      omega
theorem onB_eq (a1 a2 b1 b2 p1 p2 : Int) : onB a1 a2 b1 b2 p1 p2 = (decide (twI a1 a2 b1 b2 p1 p2 = 0) && decide (min a1 b1 ≤ p1 ∧ p1 ≤ max a1 b1) && decide (min a2 b2 ≤ p2 ∧ p2 ≤ max a2 b2)) := by
  unfold onB; simp only [between_iff]
/-- two lines have a point in common -/
def meetB (a1 a2 b1 b2 c1 c2 d1 d2 : Int) : Bool :=
  onB a1 a2 b1 b2 c1 c2 || onB a1 a2 b1 b2 d1 d2 || onB c1 c2 d1 d2 a1 a2 || onB c1 c2 d1 d2 b1 b2 ||
    decide (twI a1 a2 b1 b2 c1 c2 * twI a1 a2 b1 b2 d1 d2 < 0 ∧ twI c1 c2 d1 d2 a1 a2 * twI c1 c2 d1 d2 b1 b2 < 0)
theorem sgn_mul (m n : Int) : sgn m * sgn n < 0 ↔ m * n < 0 := by
  unfold sgn
  rcases Int.lt_trichotomy m 0 with h1 | h1 | h1 <;> rcases Int.lt_trichotomy n 0 with h2 | h2 | h2
  · have := Int.mul_pos_of_neg_of_neg h1 h2
    rw [if_neg (by omega), if_pos h1, if_neg (by omega), if_pos h2]; omega
  · subst h2; simp
  · have := Int.mul_neg_of_neg_of_pos h1 h2
    rw [if_neg (by omega), if_pos h1, if_pos h2]; omega
  · subst h1; simp
  · subst h1; simp
  · subst h1; simp
  · have := Int.mul_neg_of_pos_of_neg h1 h2
    rw [if_pos h1, if_neg (by omega), if_pos h2]; omega
  · subst h2; simp
  · have := Int.mul_pos h1 h2
    rw [if_pos h1, if_pos h2]; omega
theorem sgn_01 (m : Int) : sgn m = -1 ∨ sgn m = 0 ∨ sgn m = 1 := by unfold sgn; split; omega; split <;> omega
theorem twI_bd {a1 a2 b1 b2 c1 c2 : Int} (ha : Sz a1 a2) (hb : Sz b1 b2) (hc : Sz c1 c2) : -80000000000 ≤ twI a1 a2 b1 b2 c1 c2 ∧ twI a1 a2 b1 b2 c1 c2 ≤ 80000000000 := by
  unfold Sz at *
  have h1 := prod_bd (a := b1) (b := a1) (c := c2) (d := a2) (by omega) (by omega) (by omega) (by omega)
  have h2 := prod_bd (a := b2) (b := a2) (c := c1) (d := a1) (by omega) (by omega) (by omega) (by omega)
  unfold twI; omega
end Go.Proofs.Ytacabmbajadbgaa
/- A statement that leaves its order open, all of whose operations come to one value in every world that meets S and lead to such a world again: one walk through it, in the order of the text, serves for every order. -/
namespace Go.Proofs.Ytacabmbajadbgaa
open Go.ChangeShapes Go.WideShapes Go.ChangeAt Go.RowKit Go.Joins
set_option linter.unusedVariables false
set_option linter.unusedSimpArgs false
set_option maxRecDepth 4000
section
variable {P : Program} {ops : Array Oper} {Q : Exit → Act → World → Prop} {md : Region.Mode} {S : World → Prop}
/-- what an operation's run comes to: the value v, in a world that meets S -/
def Comes (P : Program) (S : World → Prop) (v : Value) : Result Next → Prop
  | .ok (.value u) w' => u = v ∧ S w'
  | .ok .skip w' => v = undef ∧ S w'
  | .ok (.enter f args) w' => Calls P f args w' fun e w'' => e = .returned v ∧ S w''
  | _ => False
theorem comes_value {u v : Value} {w' : World} : Comes P S v (.ok (.value u) w') = (u = v ∧ S w') := rfl
theorem comes_skip {v : Value} {w' : World} : Comes P S v (.ok .skip w') = (v = undef ∧ S w') := rfl
theorem comes_enter {v : Value} {f : FuncId} {args : Array Value} {w' : World} : Comes P S v (.ok (.enter f args) w') = Calls P f args w' (fun e w'' => e = .returned v ∧ S w'') := rfl
theorem comes_v {u : Value} {w' : World} (h : S w') : Comes P S u (.ok (.value u) w') := ⟨rfl, h⟩
theorem comes_e {v : Value} {f : FuncId} {args : Array Value} {w' : World} (h : Calls P f args w' fun e w'' => e = .returned v ∧ S w'') : Comes P S v (.ok (.enter f args) w') := h
theorem comes_c {v : Value} {f : FuncId} {args : Array Value} {w' : World} (h : Calls P f args w' fun e w'' => e = .returned v ∧ Below w'.heap.size w' w'') (hk : ∀ w'', Below w'.heap.size w' w'' → S w'') : Comes P S v (.ok (.enter f args) w') :=
  Calls.mono h fun e w'' he => ⟨he.1, hk w'' he.2⟩
theorem comes_q {v : Value} {f : FuncId} {args : Array Value} {w' : World} (h : Calls P f args w' fun e w'' => e = .returned v ∧ w' = w'') (hs : S w') : Comes P S v (.ok (.enter f args) w') :=
  Calls.mono h fun e w'' he => ⟨he.1, he.2 ▸ hs⟩
def Steady (P : Program) (ops : Array Oper) (S : World → Prop) (o : Oper) (v : Value) (a : Act) : Prop :=
  (Region.wanted o (yielded ops a.tmps) = true ∧ ∀ w, S w → Comes P S v ((execOp a.eval o).run P w)) ∨
  (Region.wanted o (yielded ops a.tmps) = false ∧ v = undef)
theorem steady_same {o : Oper} {v : Value} {a a' : Act} (hy : Steady P ops S o v a) (he : execOp a'.eval o = execOp a.eval o)
    (hw : Region.wanted o (yielded ops a'.tmps) = Region.wanted o (yielded ops a.tmps)) : Steady P ops S o v a' := by
  unfold Steady at *; rw [he, hw]; exact hy
theorem steady_op {i : Nat} {o : Oper} {v : Value} {a : Act} (hi : ops[i]? = some o) (hy : Steady P ops S o v a) {K : Act → World → Prop} {w : World} (hS : S w)
    (h : ∀ w', S w' → K (a.put o.dst v) w') : wpOp P ops Q i K a w := by
  unfold wpOp
  simp only [hi]
  rcases hy with ⟨hw, hv⟩ | ⟨hw, rfl⟩
  · simp only [hw, if_true]
    left
    have hc := hv w hS
    unfold Oper.wp
    generalize (execOp a.eval o).run P w = r at *
    cases r with
    | ok n w' =>
      cases n with
      | value u => obtain ⟨rfl, h'⟩ := hc; exact h _ h'
      | skip => obtain ⟨rfl, h'⟩ := hc; exact h _ h'
      | enter f args => exact Calls.mono hc fun e w'' he => by obtain ⟨rfl, hs⟩ := he; exact h _ hs
      | _ => exact hc.elim
    | halt x w' => exact hc.elim
  · simp only [hw, Bool.false_eq_true, if_false]
    exact h _ hS
/-- whichever comes up comes to one value: no world is spoken of till the end -/
def wpB (P : Program) (md : Region.Mode) (ops : Array Oper) (Q : Exit → Act → World → Prop) (S : World → Prop) : Nat → Array Bool → Act → Prop
  | 0, listed, a => Region.ready md ops listed = [] ∧ ∀ w, S w → Q .normal a w
  | fuel + 1, listed, a => (Region.ready md ops listed = [] → ∀ w, S w → Q .normal a w) ∧
    ∀ i ∈ Region.ready md ops listed, ∃ oi v, ops[i]? = some oi ∧ Steady P ops S oi v a ∧ wpB P md ops Q S fuel (listed.setIfInBounds i true) (a.put oi.dst v)
theorem wpAny_of_B : ∀ (fuel : Nat) (listed : Array Bool) (a : Act), wpB P md ops Q S fuel listed a → ∀ w, S w → wpAny P md ops Q fuel listed a w
  | 0, _, _, h, w, hS => ⟨h.1, h.2 w hS⟩
  | fuel + 1, _, _, h, w, hS => ⟨fun hr => h.1 hr w hS, fun i hi => by
      obtain ⟨oi, v, ho, hy, hn⟩ := h.2 i hi
      exact steady_op ho hy hS fun w' hS' => wpAny_of_B fuel _ _ hn w' hS'⟩
theorem wpB_first {i : Nat} {oi : Oper} {v : Value} (hi : ops[i]? = some oi) (hsel : ∀ (j : Nat) (o : Oper) cs b, ops[j]? = some o → o.op ≠ .select cs b) :
    ∀ (fuel : Nat) (listed : Array Bool) (a : Act),
      (∀ j oj, ops[j]? = some oj → j ≠ i → listed.getD j true = false → (∀ e ∈ oj.after, Region.binds md e = true → e.on ≠ i) → oi.apart ops oj = true) →
      i ∈ Region.ready md ops listed → Steady P ops S oi v a →
      wpB P md ops Q S fuel (listed.setIfInBounds i true) (a.put oi.dst v) → wpB P md ops Q S (fuel + 1) listed a := by
  intro fuel
  induction fuel with
  | zero =>
    intro listed a _ hr hy H
    refine ⟨fun h => (by rw [h] at hr; cases hr), fun j hj => ?_⟩
    by_cases hji : j = i
    · subst hji; exact ⟨oi, v, hi, hy, H⟩
    · have hm := ready_mono hj hji
      rw [H.1] at hm
      cases hm
  | succ fuel ih =>
    intro listed a hfree hr hy H
    refine ⟨fun h => (by rw [h] at hr; cases hr), fun j hj => ?_⟩
    by_cases hji : j = i
    · subst hji; exact ⟨oi, v, hi, hy, H⟩
    · obtain ⟨oj, u, hoj, hsj, Hj⟩ := H.2 j (ready_mono hj hji)
      obtain ⟨hjun, oj', hoj', hall⟩ := mem_ready.1 hj
      obtain rfl : oj' = oj := Option.some.inj (hoj'.symm.trans hoj)
      have hnot : ∀ e ∈ oj'.after, Region.binds md e = true → e.on ≠ i := fun e he hb heq => by
        have h1 := hall e he hb
        have h0 := (mem_ready.1 hr).1
        rw [heq] at h1
        have : listed.getD i true = listed.getD i false := by
          rcases Nat.lt_or_ge i listed.size with h' | h'
          · simp [h']
          · simp [Array.getElem?_eq_none h'] at h1
        rw [this, h1] at h0
        cases h0
      obtain ⟨h1, h2, h3⟩ := Oper.apart_spec (hfree j oj' hoj hji hjun hnot)
      have k1 : Steady P ops S oj' u a := steady_same hsj (execOp_put oj' (fun cs b => hsel j oj' cs b hoj) a oi.dst v h1).symm (wanted_put oj' a oi.dst v h1).symm
      have k2 : Steady P ops S oi v (a.put oj'.dst u) := steady_same hy (execOp_put oi (fun cs b => hsel i oi cs b hi) a oj'.dst u h3) (wanted_put oi a oj'.dst u h3)
      refine ⟨oj', u, hoj, k1, ih _ _ (fun k ok hk hki hun hno => ?_) (ready_mono hr (Ne.symm hji)) k2 ?_⟩
      · refine hfree k ok hk hki ?_ hno
        by_cases hjk : j = k
        · subst hjk; exact hjun
        · rw [getD_set_ne true hjk] at hun; exact hun
      · rw [Array.setIfInBounds_comm _ _ hji, ← Act.put_comm a v u h2]
        exact Hj
theorem wpB_take {i : Nat} {oi : Oper} {v : Value} {fuel : Nat} {listed : Array Bool} {a : Act} (hi : ops[i]? = some oi) (hs : Region.noSelect ops = true)
    (hf : Region.free md ops listed i = true) (hr : (Region.ready md ops listed).contains i = true) (hy : Steady P ops S oi v a)
    (h : wpB P md ops Q S fuel (listed.setIfInBounds i true) (a.put oi.dst v)) : wpB P md ops Q S (fuel + 1) listed a :=
  wpB_first hi (Region.noSelect_spec hs) fuel listed a (Region.free_spec hi hf) (by simpa using hr) hy h
theorem op_of_drop {i : Nat} {oi : Oper} {rest : List Oper} (h : ops.toList.drop i = oi :: rest) : ops[i]? = some oi := by
  have h0 : (ops.toList.drop i)[0]? = some oi := by rw [h]; rfl
  simpa [List.getElem?_drop] using h0
/-- number i, as it stands in the text -/
theorem wpB_text (i : Nat) {oi : Oper} {rest : List Oper} {v : Value} {fuel : Nat} {listed : Array Bool} {a : Act} (hi : ops.toList.drop i = oi :: rest) (hs : Region.noSelect ops = true)
    (hf : Region.free md ops listed i = true) (hr : (Region.ready md ops listed).contains i = true) (hw : Region.wanted oi (yielded ops a.tmps) = true)
    (hy : ∀ w, S w → Comes P S v ((execOp a.eval oi).run P w))
    (h : wpB P md ops Q S fuel (listed.setIfInBounds i true) (a.put oi.dst v)) : wpB P md ops Q S (fuel + 1) listed a :=
  wpB_take (op_of_drop hi) hs hf hr (Or.inl ⟨hw, hy⟩) h
/-- number i, which is not asked for -/
theorem wpB_skip (i : Nat) {oi : Oper} {rest : List Oper} {fuel : Nat} {listed : Array Bool} {a : Act} (hi : ops.toList.drop i = oi :: rest) (hs : Region.noSelect ops = true)
    (hf : Region.free md ops listed i = true) (hr : (Region.ready md ops listed).contains i = true) (hw : Region.wanted oi (yielded ops a.tmps) = false)
    (h : wpB P md ops Q S fuel (listed.setIfInBounds i true) (a.put oi.dst undef)) : wpB P md ops Q S (fuel + 1) listed a :=
  wpB_take (op_of_drop hi) hs hf hr (Or.inr ⟨hw, rfl⟩) h
theorem wpB_done {listed : Array Bool} {a : Act} (hr : Region.ready md ops listed = []) (h : ∀ w, S w → Q .normal a w) : ∀ fuel, wpB P md ops Q S fuel listed a
  | 0 => ⟨hr, h⟩
  | _ + 1 => ⟨fun _ => h, by rw [hr]; simp⟩
theorem wp_region_B {id : Nat} {a : Act} {w : World} (S : World → Prop) (hm : P.follows .mixedOrders = true) (hS : S w.drew)
    (h : wpB P .any ops Q S ops.size (Array.replicate ops.size false) a) : (Code.region id ops true).wp P Q a w :=
  wp_region_any hm (wpAny_of_B _ _ _ h _ hS)
end
end Go.Proofs.Ytacabmbajadbgaa
/- contracts: lines that meet, on both sides -/
namespace Go.Proofs.Ytacabmbajadbgaa
open Go.ChangeShapes Go.WideShapes Go.ChangeAt Go.RowKit Go.Joins
set_option linter.unusedVariables false
set_option linter.unusedSimpArgs false
set_option maxRecDepth 4000
theorem sgn_pr (m n : Int) : -1 ≤ sgn m * sgn n ∧ sgn m * sgn n ≤ 1 := by
  have h1 := sgn_01 m
  have h2 := sgn_01 n
  exact mul_bd (m := 1) (n := 1) (by omega) (by omega) (by omega) (by omega)
theorem held4 {w W W' : World} {a1 a2 b1 b2 c1 c2 d1 d2 : Int} (h : Below w.heap.size w W ∧ w.heap.size + 3 < W.heap.size ∧ W.cell? ⟨w.heap.size, 0, none⟩ = some (.int .i64 a1) ∧ W.cell? ⟨w.heap.size, 1, none⟩ = some (.int .i64 a2) ∧ W.cell? ⟨w.heap.size + 1, 0, none⟩ = some (.int .i64 b1) ∧ W.cell? ⟨w.heap.size + 1, 1, none⟩ = some (.int .i64 b2) ∧ W.cell? ⟨w.heap.size + 2, 0, none⟩ = some (.int .i64 c1) ∧ W.cell? ⟨w.heap.size + 2, 1, none⟩ = some (.int .i64 c2) ∧ W.cell? ⟨w.heap.size + 3, 0, none⟩ = some (.int .i64 d1) ∧ W.cell? ⟨w.heap.size + 3, 1, none⟩ = some (.int .i64 d2)) (hb : Below W.heap.size W W') : Below w.heap.size w W' ∧ w.heap.size + 3 < W'.heap.size ∧ W'.cell? ⟨w.heap.size, 0, none⟩ = some (.int .i64 a1) ∧ W'.cell? ⟨w.heap.size, 1, none⟩ = some (.int .i64 a2) ∧ W'.cell? ⟨w.heap.size + 1, 0, none⟩ = some (.int .i64 b1) ∧ W'.cell? ⟨w.heap.size + 1, 1, none⟩ = some (.int .i64 b2) ∧ W'.cell? ⟨w.heap.size + 2, 0, none⟩ = some (.int .i64 c1) ∧ W'.cell? ⟨w.heap.size + 2, 1, none⟩ = some (.int .i64 c2) ∧ W'.cell? ⟨w.heap.size + 3, 0, none⟩ = some (.int .i64 d1) ∧ W'.cell? ⟨w.heap.size + 3, 1, none⟩ = some (.int .i64 d2) := by
  obtain ⟨h1, h2, h3, h4, h5, h6, h7, h8, h9, h10⟩ := h
  have hc := (bcell hb).1
  have hz := hb.size
  have hz1 := h1.size
  exact ⟨h1.trans (hb.mono hz1), by omega, by rw [hc _ _ (by omega), h3], by rw [hc _ _ (by omega), h4], by rw [hc _ _ (by omega), h5], by rw [hc _ _ (by omega), h6], by rw [hc _ _ (by omega), h7], by rw [hc _ _ (by omega), h8], by rw [hc _ _ (by omega), h9], by rw [hc _ _ (by omega), h10]⟩
end Go.Proofs.Ytacabmbajadbgaa
/- contracts: lines that meet, the program's side -/
namespace Go.Proofs.Ytacabmbajadbgaa
open Go.ChangeShapes Go.WideShapes Go.ChangeAt Go.RowKit Go.Joins
set_option linter.unusedVariables false
set_option linter.unusedSimpArgs false
set_option maxRecDepth 4000
theorem sz_of {x y : Int} (h : isPegB x y = true) : Sz x y := by unfold isPegB at h; simp at h; unfold Sz; omega
theorem tw_bd40 {a1 a2 b1 b2 c1 c2 : Int} (ha : isPegB a1 a2 = true) (hb : isPegB b1 b2 = true) (hc : isPegB c1 c2 = true) : -12800 ≤ twI a1 a2 b1 b2 c1 c2 ∧ twI a1 a2 b1 b2 c1 c2 ≤ 12800 := by
  unfold isPegB at *
  simp at ha hb hc
  have h1 := mul_bd (x := b1 - a1) (y := c2 - a2) (m := 80) (n := 80) (by omega) (by omega) (by omega) (by omega)
  have h2 := mul_bd (x := b2 - a2) (y := c1 - a1) (m := 80) (n := 80) (by omega) (by omega) (by omega) (by omega)
  unfold twI; omega
end Go.Proofs.Ytacabmbajadbgaa
/- worlds in which the boxes of a call's points stand -/
namespace Go.Proofs.Ytacabmbajadbgaa
open Go.ChangeShapes Go.WideShapes Go.ChangeAt Go.RowKit Go.Joins
set_option linter.unusedVariables false
set_option linter.unusedSimpArgs false
set_option maxRecDepth 4000
theorem held1 {w W W' : World} {a1 a2 : Int} (h : Below w.heap.size w W ∧ w.heap.size + 0 < W.heap.size ∧ W.cell? ⟨w.heap.size, 0, none⟩ = some (.int .i64 a1) ∧ W.cell? ⟨w.heap.size, 1, none⟩ = some (.int .i64 a2)) (hb : Below W.heap.size W W') : Below w.heap.size w W' ∧ w.heap.size + 0 < W'.heap.size ∧ W'.cell? ⟨w.heap.size, 0, none⟩ = some (.int .i64 a1) ∧ W'.cell? ⟨w.heap.size, 1, none⟩ = some (.int .i64 a2) := by
  obtain ⟨h1, h2, h3, h4⟩ := h
  have hc := (bcell hb).1
  have hz := hb.size
  have hz1 := h1.size
  exact ⟨h1.trans (hb.mono hz1), by omega, by rw [hc _ _ (by omega), h3], by rw [hc _ _ (by omega), h4]⟩
theorem held2 {w W W' : World} {a1 a2 b1 b2 : Int} (h : Below w.heap.size w W ∧ w.heap.size + 1 < W.heap.size ∧ W.cell? ⟨w.heap.size, 0, none⟩ = some (.int .i64 a1) ∧ W.cell? ⟨w.heap.size, 1, none⟩ = some (.int .i64 a2) ∧ W.cell? ⟨w.heap.size + 1, 0, none⟩ = some (.int .i64 b1) ∧ W.cell? ⟨w.heap.size + 1, 1, none⟩ = some (.int .i64 b2)) (hb : Below W.heap.size W W') : Below w.heap.size w W' ∧ w.heap.size + 1 < W'.heap.size ∧ W'.cell? ⟨w.heap.size, 0, none⟩ = some (.int .i64 a1) ∧ W'.cell? ⟨w.heap.size, 1, none⟩ = some (.int .i64 a2) ∧ W'.cell? ⟨w.heap.size + 1, 0, none⟩ = some (.int .i64 b1) ∧ W'.cell? ⟨w.heap.size + 1, 1, none⟩ = some (.int .i64 b2) := by
  obtain ⟨h1, h2, h3, h4, h5, h6⟩ := h
  have hc := (bcell hb).1
  have hz := hb.size
  have hz1 := h1.size
  exact ⟨h1.trans (hb.mono hz1), by omega, by rw [hc _ _ (by omega), h3], by rw [hc _ _ (by omega), h4], by rw [hc _ _ (by omega), h5], by rw [hc _ _ (by omega), h6]⟩
theorem held3 {w W W' : World} {a1 a2 b1 b2 c1 c2 : Int} (h : Below w.heap.size w W ∧ w.heap.size + 2 < W.heap.size ∧ W.cell? ⟨w.heap.size, 0, none⟩ = some (.int .i64 a1) ∧ W.cell? ⟨w.heap.size, 1, none⟩ = some (.int .i64 a2) ∧ W.cell? ⟨w.heap.size + 1, 0, none⟩ = some (.int .i64 b1) ∧ W.cell? ⟨w.heap.size + 1, 1, none⟩ = some (.int .i64 b2) ∧ W.cell? ⟨w.heap.size + 2, 0, none⟩ = some (.int .i64 c1) ∧ W.cell? ⟨w.heap.size + 2, 1, none⟩ = some (.int .i64 c2)) (hb : Below W.heap.size W W') : Below w.heap.size w W' ∧ w.heap.size + 2 < W'.heap.size ∧ W'.cell? ⟨w.heap.size, 0, none⟩ = some (.int .i64 a1) ∧ W'.cell? ⟨w.heap.size, 1, none⟩ = some (.int .i64 a2) ∧ W'.cell? ⟨w.heap.size + 1, 0, none⟩ = some (.int .i64 b1) ∧ W'.cell? ⟨w.heap.size + 1, 1, none⟩ = some (.int .i64 b2) ∧ W'.cell? ⟨w.heap.size + 2, 0, none⟩ = some (.int .i64 c1) ∧ W'.cell? ⟨w.heap.size + 2, 1, none⟩ = some (.int .i64 c2) := by
  obtain ⟨h1, h2, h3, h4, h5, h6, h7, h8⟩ := h
  have hc := (bcell hb).1
  have hz := hb.size
  have hz1 := h1.size
  exact ⟨h1.trans (hb.mono hz1), by omega, by rw [hc _ _ (by omega), h3], by rw [hc _ _ (by omega), h4], by rw [hc _ _ (by omega), h5], by rw [hc _ _ (by omega), h6], by rw [hc _ _ (by omega), h7], by rw [hc _ _ (by omega), h8]⟩
theorem box1 (w : World) (t : TypeId) (a1 a2 : Int) : Below w.heap.size w (w.alloc (.cells #[.int .i64 a1, .int .i64 a2] t)) ∧ w.heap.size + 0 < (w.alloc (.cells #[.int .i64 a1, .int .i64 a2] t)).heap.size ∧ (w.alloc (.cells #[.int .i64 a1, .int .i64 a2] t)).cell? ⟨w.heap.size, 0, none⟩ = some (.int .i64 a1) ∧ (w.alloc (.cells #[.int .i64 a1, .int .i64 a2] t)).cell? ⟨w.heap.size, 1, none⟩ = some (.int .i64 a2) :=
  ⟨Below.alloc (Below.refl _ _) (by simp <;> omega) _, by simp <;> omega, by go_simp, by go_simp⟩
theorem box2 (w : World) (t : TypeId) (a1 a2 b1 b2 : Int) : Below w.heap.size w ((w.alloc (.cells #[.int .i64 a1, .int .i64 a2] t)).alloc (.cells #[.int .i64 b1, .int .i64 b2] t)) ∧ w.heap.size + 1 < ((w.alloc (.cells #[.int .i64 a1, .int .i64 a2] t)).alloc (.cells #[.int .i64 b1, .int .i64 b2] t)).heap.size ∧ ((w.alloc (.cells #[.int .i64 a1, .int .i64 a2] t)).alloc (.cells #[.int .i64 b1, .int .i64 b2] t)).cell? ⟨w.heap.size, 0, none⟩ = some (.int .i64 a1) ∧ ((w.alloc (.cells #[.int .i64 a1, .int .i64 a2] t)).alloc (.cells #[.int .i64 b1, .int .i64 b2] t)).cell? ⟨w.heap.size, 1, none⟩ = some (.int .i64 a2) ∧ ((w.alloc (.cells #[.int .i64 a1, .int .i64 a2] t)).alloc (.cells #[.int .i64 b1, .int .i64 b2] t)).cell? ⟨w.heap.size + 1, 0, none⟩ = some (.int .i64 b1) ∧ ((w.alloc (.cells #[.int .i64 a1, .int .i64 a2] t)).alloc (.cells #[.int .i64 b1, .int .i64 b2] t)).cell? ⟨w.heap.size + 1, 1, none⟩ = some (.int .i64 b2) :=
  ⟨Below.alloc (Below.alloc (Below.refl _ _) (by simp <;> omega) _) (by simp <;> omega) _, by simp <;> omega, by go_simp, by go_simp, by go_simp, by go_simp⟩
theorem box3 (w : World) (t : TypeId) (a1 a2 b1 b2 c1 c2 : Int) : Below w.heap.size w (((w.alloc (.cells #[.int .i64 a1, .int .i64 a2] t)).alloc (.cells #[.int .i64 b1, .int .i64 b2] t)).alloc (.cells #[.int .i64 c1, .int .i64 c2] t)) ∧ w.heap.size + 2 < (((w.alloc (.cells #[.int .i64 a1, .int .i64 a2] t)).alloc (.cells #[.int .i64 b1, .int .i64 b2] t)).alloc (.cells #[.int .i64 c1, .int .i64 c2] t)).heap.size ∧ (((w.alloc (.cells #[.int .i64 a1, .int .i64 a2] t)).alloc (.cells #[.int .i64 b1, .int .i64 b2] t)).alloc (.cells #[.int .i64 c1, .int .i64 c2] t)).cell? ⟨w.heap.size, 0, none⟩ = some (.int .i64 a1) ∧ (((w.alloc (.cells #[.int .i64 a1, .int .i64 a2] t)).alloc (.cells #[.int .i64 b1, .int .i64 b2] t)).alloc (.cells #[.int .i64 c1, .int .i64 c2] t)).cell? ⟨w.heap.size, 1, none⟩ = some (.int .i64 a2) ∧ (((w.alloc (.cells #[.int .i64 a1, .int .i64 a2] t)).alloc (.cells #[.int .i64 b1, .int .i64 b2] t)).alloc (.cells #[.int .i64 c1, .int .i64 c2] t)).cell? ⟨w.heap.size + 1, 0, none⟩ = some (.int .i64 b1) ∧ (((w.alloc (.cells #[.int .i64 a1, .int .i64 a2] t)).alloc (.cells #[.int .i64 b1, .int .i64 b2] t)).alloc (.cells #[.int .i64 c1, .int .i64 c2] t)).cell? ⟨w.heap.size + 1, 1, none⟩ = some (.int .i64 b2) ∧ (((w.alloc (.cells #[.int .i64 a1, .int .i64 a2] t)).alloc (.cells #[.int .i64 b1, .int .i64 b2] t)).alloc (.cells #[.int .i64 c1, .int .i64 c2] t)).cell? ⟨w.heap.size + 2, 0, none⟩ = some (.int .i64 c1) ∧ (((w.alloc (.cells #[.int .i64 a1, .int .i64 a2] t)).alloc (.cells #[.int .i64 b1, .int .i64 b2] t)).alloc (.cells #[.int .i64 c1, .int .i64 c2] t)).cell? ⟨w.heap.size + 2, 1, none⟩ = some (.int .i64 c2) :=
  ⟨Below.alloc (Below.alloc (Below.alloc (Below.refl _ _) (by simp <;> omega) _) (by simp <;> omega) _) (by simp <;> omega) _, by simp <;> omega, by go_simp, by go_simp, by go_simp, by go_simp, by go_simp, by go_simp⟩
theorem box4 (w : World) (t : TypeId) (a1 a2 b1 b2 c1 c2 d1 d2 : Int) : Below w.heap.size w ((((w.alloc (.cells #[.int .i64 a1, .int .i64 a2] t)).alloc (.cells #[.int .i64 b1, .int .i64 b2] t)).alloc (.cells #[.int .i64 c1, .int .i64 c2] t)).alloc (.cells #[.int .i64 d1, .int .i64 d2] t)) ∧ w.heap.size + 3 < ((((w.alloc (.cells #[.int .i64 a1, .int .i64 a2] t)).alloc (.cells #[.int .i64 b1, .int .i64 b2] t)).alloc (.cells #[.int .i64 c1, .int .i64 c2] t)).alloc (.cells #[.int .i64 d1, .int .i64 d2] t)).heap.size ∧ ((((w.alloc (.cells #[.int .i64 a1, .int .i64 a2] t)).alloc (.cells #[.int .i64 b1, .int .i64 b2] t)).alloc (.cells #[.int .i64 c1, .int .i64 c2] t)).alloc (.cells #[.int .i64 d1, .int .i64 d2] t)).cell? ⟨w.heap.size, 0, none⟩ = some (.int .i64 a1) ∧ ((((w.alloc (.cells #[.int .i64 a1, .int .i64 a2] t)).alloc (.cells #[.int .i64 b1, .int .i64 b2] t)).alloc (.cells #[.int .i64 c1, .int .i64 c2] t)).alloc (.cells #[.int .i64 d1, .int .i64 d2] t)).cell? ⟨w.heap.size, 1, none⟩ = some (.int .i64 a2) ∧ ((((w.alloc (.cells #[.int .i64 a1, .int .i64 a2] t)).alloc (.cells #[.int .i64 b1, .int .i64 b2] t)).alloc (.cells #[.int .i64 c1, .int .i64 c2] t)).alloc (.cells #[.int .i64 d1, .int .i64 d2] t)).cell? ⟨w.heap.size + 1, 0, none⟩ = some (.int .i64 b1) ∧ ((((w.alloc (.cells #[.int .i64 a1, .int .i64 a2] t)).alloc (.cells #[.int .i64 b1, .int .i64 b2] t)).alloc (.cells #[.int .i64 c1, .int .i64 c2] t)).alloc (.cells #[.int .i64 d1, .int .i64 d2] t)).cell? ⟨w.heap.size + 1, 1, none⟩ = some (.int .i64 b2) ∧ ((((w.alloc (.cells #[.int .i64 a1, .int .i64 a2] t)).alloc (.cells #[.int .i64 b1, .int .i64 b2] t)).alloc (.cells #[.int .i64 c1, .int .i64 c2] t)).alloc (.cells #[.int .i64 d1, .int .i64 d2] t)).cell? ⟨w.heap.size + 2, 0, none⟩ = some (.int .i64 c1) ∧ ((((w.alloc (.cells #[.int .i64 a1, .int .i64 a2] t)).alloc (.cells #[.int .i64 b1, .int .i64 b2] t)).alloc (.cells #[.int .i64 c1, .int .i64 c2] t)).alloc (.cells #[.int .i64 d1, .int .i64 d2] t)).cell? ⟨w.heap.size + 2, 1, none⟩ = some (.int .i64 c2) ∧ ((((w.alloc (.cells #[.int .i64 a1, .int .i64 a2] t)).alloc (.cells #[.int .i64 b1, .int .i64 b2] t)).alloc (.cells #[.int .i64 c1, .int .i64 c2] t)).alloc (.cells #[.int .i64 d1, .int .i64 d2] t)).cell? ⟨w.heap.size + 3, 0, none⟩ = some (.int .i64 d1) ∧ ((((w.alloc (.cells #[.int .i64 a1, .int .i64 a2] t)).alloc (.cells #[.int .i64 b1, .int .i64 b2] t)).alloc (.cells #[.int .i64 c1, .int .i64 c2] t)).alloc (.cells #[.int .i64 d1, .int .i64 d2] t)).cell? ⟨w.heap.size + 3, 1, none⟩ = some (.int .i64 d2) :=
  ⟨Below.alloc (Below.alloc (Below.alloc (Below.alloc (Below.refl _ _) (by simp <;> omega) _) (by simp <;> omega) _) (by simp <;> omega) _) (by simp <;> omega) _, by simp <;> omega, by go_simp, by go_simp, by go_simp, by go_simp, by go_simp, by go_simp, by go_simp, by go_simp⟩
end Go.Proofs.Ytacabmbajadbgaa
/- contracts: greatest of two, size of a number -/
namespace Go.Proofs.Ytacabmbajadbgaa
open Go.ChangeShapes Go.WideShapes Go.ChangeAt Go.RowKit Go.Joins
set_option linter.unusedVariables false
set_option linter.unusedSimpArgs false
set_option maxRecDepth 4000
theorem below_dr {B : Nat} {a w : World} (h : Below B a w) (n : Nat) : Below B a (w.drewN n) := ⟨h.os, h.tape, h.output, h.size, h.block⟩
theorem l1Most_any (a b : Int) (w : World) : Calls Try.prog 127 #[.int .i64 a, .int .i64 b] w fun e w' => e = .returned (.int .i64 (max a b)) ∧ w = w' := by
  by_cases h : b < a
  all_goals
    go_enter Try.func127, Try.ntmps127
    go_wp2
    go_ret
    exact ⟨ret_int (by omega), rfl⟩
theorem l1Abs_any (a : Int) (w : World) (h1 : -100000000000000 ≤ a) (h2 : a ≤ 100000000000000) : Calls Try.prog 117 #[.int .i64 a] w fun e w' => e = .returned (.int .i64 (a.natAbs : Int)) ∧ w = w' := by
  go_enter Try.func117, Try.ntmps117
  go_wp2_with fail
  refine (l1Most_any _ _ _).mono ?_; rintro e _ ⟨rfl, rfl⟩
  go_wp2_with fail
  go_ret
  exact ⟨ret_int (by omega), rfl⟩
end Go.Proofs.Ytacabmbajadbgaa
/- lists of points in memory: how they read; a list of the laws' package made one of the program's -/
namespace Go.Proofs.Ytacabmbajadbgaa
open Go.ChangeShapes Go.WideShapes Go.ChangeAt Go.RowKit Go.Joins
set_option linter.unusedVariables false
set_option linter.unusedSimpArgs false
set_option maxRecDepth 4000
/-- the slice's cells from address A on hold the points l; they lie below block B -/
def Rd (w : World) (B : Nat) (A : Option Addr) (l : List (Int × Int)) : Prop :=
  0 < l.length → ∃ b off, A = some ⟨b, off, none⟩ ∧ b < B ∧ ∀ i p, l[i]? = some p →
    w.cell? ⟨b, off + i * 2, none⟩ = some (.int .i64 p.1) ∧ w.cell? ⟨b, off + i * 2 + 1, none⟩ = some (.int .i64 p.2)
theorem rd_keep {w w' : World} {B : Nat} {A : Option Addr} {l : List (Int × Int)} (h : Rd w B A l) (hk : ∀ b o, b < B → w'.cell? ⟨b, o, none⟩ = w.cell? ⟨b, o, none⟩) : Rd w' B A l := by
  intro hl
  obtain ⟨b, off, e, hb, hc⟩ := h hl
  exact ⟨b, off, e, hb, fun i p hp => by rw [hk _ _ hb, hk _ _ hb]; exact hc i p hp⟩
theorem rd_below {w w' : World} {B B' : Nat} {A : Option Addr} {l : List (Int × Int)} (h : Rd w B A l) (hb : Below B' w w') (hB : B ≤ B') : Rd w' B A l :=
  rd_keep h fun b o hlt => hb.cell (p := ⟨b, o, none⟩) (by show b < B'; omega)
theorem rd_more {w : World} {B B' : Nat} {A : Option Addr} {l : List (Int × Int)} (h : Rd w B A l) (hB : B ≤ B') : Rd w B' A l := by
  intro hl
  obtain ⟨b, off, e, hb, hc⟩ := h hl
  exact ⟨b, off, e, by omega, hc⟩
theorem peg_info : (Try.prog.info? 53).map (fun i => (i.zero, i.size, i.bytes)) = some (some (.agg #[.int .i64 0, .int .i64 0]), 2, 16) := by kernel_rfl
/-- a new block of points: number g, the first k of them set -/
def Set (w : World) (g n k : Nat) (l : List (Int × Int)) : Prop :=
  g < w.heap.size ∧ (∀ i, i < n → (∃ u, w.cell? ⟨g, i * 2, none⟩ = some u) ∧ (∃ u, w.cell? ⟨g, i * 2 + 1, none⟩ = some u) ∧ w.frozen? ⟨g, i * 2, none⟩ = false ∧ w.frozen? ⟨g, i * 2 + 1, none⟩ = false) ∧
    ∀ i p, i < k → l[i]? = some p → w.cell? ⟨g, i * 2, none⟩ = some (.int .i64 p.1) ∧ w.cell? ⟨g, i * 2 + 1, none⟩ = some (.int .i64 p.2)
theorem set_new (w : World) (t : TypeId) (n : Nat) (l : List (Int × Int)) : Set (w.alloc (.cells (madeCells #[.int .i64 0, .int .i64 0] (n * 2)) t)) w.heap.size n 0 l := by
  refine ⟨by simp, fun i hi => ?_, fun i p h => absurd h (Nat.not_lt_zero _)⟩
  have hs := size_madeCells #[.int .i64 0, .int .i64 0] (n * 2)
  have hb : ∀ j, j < n * 2 → ∃ u, (w.alloc (.cells (madeCells #[.int .i64 0, .int .i64 0] (n * 2)) t)).cell? ⟨w.heap.size, j, none⟩ = some u := fun j hj =>
    ⟨_, by rw [cell_of_row (w.alloc _) w.heap.size j _ t (0, 0) (heap_alloc_new w _)]; exact Array.getElem?_eq_getElem (by omega)⟩
  refine ⟨hb _ (by omega), hb _ (by omega), ?_, ?_⟩ <;> (rw [frozen?_alloc_cells]; simp [World.frozen?])
theorem set_below {w w' : World} {g n k : Nat} {l : List (Int × Int)} (h : Set w g n k l) (hb : Below w.heap.size w w') : Set w' g n k l := by
  obtain ⟨h1, h2, h3⟩ := h
  have hc := (bcell hb).1
  have hf := (bcell hb).2
  have hz := hb.size
  exact ⟨by omega, fun i hi => by rw [hc _ _ h1, hc _ _ h1, hf _ _ h1, hf _ _ h1]; exact h2 i hi, fun i p hi hp => by rw [hc _ _ h1, hc _ _ h1]; exact h3 i p hi hp⟩
theorem set_store {w : World} {g n k : Nat} {l : List (Int × Int)} (h : Set w g n k l) (hk : k < n) {p : Int × Int} (hp : l[k]? = some p) :
    Set ((w.setCell ⟨g, k * 2, none⟩ (.int .i64 p.1)).setCell ⟨g, k * 2 + 1, none⟩ (.int .i64 p.2)) g n (k + 1) l := by
  obtain ⟨h1, h2, h3⟩ := h
  have so : ∀ (W : World) (o o' : Nat) (u v : Value), (W.cell? ⟨g, o, none⟩ = some u) → ∃ u', (W.setCell ⟨g, o', none⟩ v).cell? ⟨g, o, none⟩ = some u' := fun W o o' u v h => cell?_setCell_some h
  have ne : ∀ (W : World) (o o' : Nat) (v : Value), o' ≠ o → (W.setCell ⟨g, o', none⟩ v).cell? ⟨g, o, none⟩ = W.cell? ⟨g, o, none⟩ := fun W o o' v h =>
    World.cell?_setCell_other W _ _ _ (fun e => h (by injection e))
  have sm : ∀ (W : World) (o : Nat) (u v : Value), W.cell? ⟨g, o, none⟩ = some u → (W.setCell ⟨g, o, none⟩ v).cell? ⟨g, o, none⟩ = some v := fun W o u v h => World.cell?_setCell_same W _ _ h
  refine ⟨by simpa [World.setCell] using h1, fun i hi => ?_, fun i q hi hq => ?_⟩
  · obtain ⟨⟨u1, e1⟩, ⟨u2, e2⟩, f1, f2⟩ := h2 i hi
    obtain ⟨u3, e3⟩ := so w _ (k * 2) u1 (.int .i64 p.1) e1
    obtain ⟨u4, e4⟩ := so w _ (k * 2) u2 (.int .i64 p.1) e2
    refine ⟨so _ _ _ u3 _ e3, so _ _ _ u4 _ e4, ?_, ?_⟩
    · rw [World.frozen?_setCell, World.frozen?_setCell]; exact f1
    · rw [World.frozen?_setCell, World.frozen?_setCell]; exact f2
  · by_cases hik : i = k
    · subst hik
      rw [hp] at hq
      injection hq with hq
      subst hq
      obtain ⟨⟨u1, e1⟩, ⟨u2, e2⟩, _, _⟩ := h2 i hk
      have e2' : (w.setCell ⟨g, i * 2, none⟩ (.int .i64 p.1)).cell? ⟨g, i * 2 + 1, none⟩ = some u2 := by rw [ne _ _ _ _ (by omega)]; exact e2
      exact ⟨by rw [ne _ _ _ _ (by omega)]; exact sm _ _ _ _ e1, sm _ _ _ _ e2'⟩
    · rw [ne _ _ _ _ (by omega), ne _ _ _ _ (by omega), ne _ _ _ _ (by omega), ne _ _ _ _ (by omega)]
      exact h3 i q (by omega) hq
end Go.Proofs.Ytacabmbajadbgaa
/- lists of points in memory that the call itself made: they may be written; marks -/
namespace Go.Proofs.Ytacabmbajadbgaa
open Go.ChangeShapes Go.WideShapes Go.ChangeAt Go.RowKit Go.Joins
set_option linter.unusedVariables false
set_option linter.unusedSimpArgs false
set_option maxRecDepth 4000
theorem rd_of_set {w : World} {g : Nat} {l : List (Int × Int)} (h : Set w g l.length l.length l) : Rd w w.heap.size (some ⟨g, 0, none⟩) l := by
  intro _
  refine ⟨g, 0, rfl, h.1, fun i p hp => ?_⟩
  rw [Nat.zero_add]
  exact h.2.2 i p (List.getElem?_eq_some_iff.1 hp).1 hp
/-- the slice's cells from address A on hold the points f 0, .., f (n - 1), may be written, and lie from block lo on, below block B -/
def Rw (w : World) (lo B : Nat) (A : Option Addr) (n : Nat) (f : Nat → Int × Int) : Prop :=
  0 < n → ∃ b off, A = some ⟨b, off, none⟩ ∧ lo ≤ b ∧ b < B ∧ ∀ i, i < n →
    (w.cell? ⟨b, off + i * 2, none⟩ = some (.int .i64 (f i).1) ∧ w.cell? ⟨b, off + i * 2 + 1, none⟩ = some (.int .i64 (f i).2)) ∧
    w.frozen? ⟨b, off + i * 2, none⟩ = false ∧ w.frozen? ⟨b, off + i * 2 + 1, none⟩ = false
/-- nothing turns but cells of blocks from lo on, below B -/
structure Only (lo B : Nat) (w w' : World) : Prop where
  os : w'.os = w.os
  tape : w'.tape = w.tape
  output : w'.output = w.output
  size : w'.heap.size = w.heap.size
  block : ∀ k, (k < lo ∨ B ≤ k) → w'.heap[k]? = w.heap[k]?
theorem Only.refl (lo B : Nat) (w : World) : Only lo B w w := ⟨rfl, rfl, rfl, rfl, fun _ _ => rfl⟩
theorem Only.below {lo B : Nat} {w w' : World} (h : Only lo B w w') : Below lo w w' := ⟨h.os, h.tape, h.output, Nat.le_of_eq h.size.symm, fun k hk => h.block k (.inl hk)⟩
theorem Only.set {lo B : Nat} {a w : World} (h : Only lo B a w) {p : Addr} (h1 : lo ≤ p.block) (h2 : p.block < B) (u : Value) : Only lo B a (w.setCell p u) :=
  ⟨h.os, h.tape, h.output, (by simp [World.setCell]; exact h.size), fun k hk => (Below.heap_setCell w p u k (by omega)).trans (h.block k hk)⟩
theorem Only.more {lo B lo' B' : Nat} {w w' : World} (h : Only lo B w w') (h1 : lo' ≤ lo) (h2 : B ≤ B') : Only lo' B' w w' := ⟨h.os, h.tape, h.output, h.size, fun k hk => h.block k (by omega)⟩
theorem rw_block {w w' : World} {lo B : Nat} {A : Option Addr} {n : Nat} {f : Nat → Int × Int} (h : Rw w lo B A n f) (hk : ∀ k, lo ≤ k → k < B → w'.heap[k]? = w.heap[k]?) : Rw w' lo B A n f := by
  intro hn
  obtain ⟨b, off, e, hb1, hb2, hc⟩ := h hn
  have c : ∀ o, w'.cell? ⟨b, o, none⟩ = w.cell? ⟨b, o, none⟩ := fun o => World.cell?_of_block (hk b hb1 hb2)
  have z : ∀ o, w'.frozen? ⟨b, o, none⟩ = w.frozen? ⟨b, o, none⟩ := fun o => World.frozen?_of_block (hk b hb1 hb2)
  exact ⟨b, off, e, hb1, hb2, fun i hi => by rw [c, c, z, z]; exact hc i hi⟩
theorem rw_below {w w' : World} {lo B B' : Nat} {A : Option Addr} {n : Nat} {f : Nat → Int × Int} (h : Rw w lo B A n f) (hb : Below B' w w') (hB : B ≤ B') : Rw w' lo B A n f :=
  rw_block h fun k _ h2 => hb.block k (by omega)
theorem rw_only {w w' : World} {lo B lo' B' : Nat} {A : Option Addr} {n : Nat} {f : Nat → Int × Int} (h : Rw w lo B A n f) (ho : Only lo' B' w w') (hd : B ≤ lo' ∨ B' ≤ lo) : Rw w' lo B A n f :=
  rw_block h fun k h1 h2 => ho.block k (by omega)
theorem rw_more {w : World} {lo B lo' B' : Nat} {A : Option Addr} {n : Nat} {f : Nat → Int × Int} (h : Rw w lo B A n f) (h1 : lo' ≤ lo) (h2 : B ≤ B') : Rw w lo' B' A n f := by
  intro hn
  obtain ⟨b, off, e, hb1, hb2, hc⟩ := h hn
  exact ⟨b, off, e, by omega, by omega, hc⟩
theorem rw_same {w : World} {lo B : Nat} {A : Option Addr} {n : Nat} {f g : Nat → Int × Int} (h : Rw w lo B A n f) (he : ∀ i, i < n → f i = g i) : Rw w lo B A n g := by
  intro hn
  obtain ⟨b, off, e, hb1, hb2, hc⟩ := h hn
  exact ⟨b, off, e, hb1, hb2, fun i hi => by rw [← he i hi]; exact hc i hi⟩
/-- the points of a list, as a row -/
def pt (l : List (Int × Int)) (i : Nat) : Int × Int := (l[i]?).getD (0, 0)
theorem pt_get {l : List (Int × Int)} {i : Nat} (h : i < l.length) : l[i]? = some (pt l i) := by
  unfold pt; rw [List.getElem?_eq_getElem h]; rfl
theorem rw_rd {w : World} {lo B : Nat} {A : Option Addr} {l : List (Int × Int)} (h : Rw w lo B A l.length (pt l)) : Rd w B A l := by
  intro hn
  obtain ⟨b, off, e, hb1, hb2, hc⟩ := h hn
  refine ⟨b, off, e, hb2, fun i p hp => ?_⟩
  have hi := (List.getElem?_eq_some_iff.1 hp).1
  rw [pt_get hi] at hp
  injection hp with hp
  rw [← hp]
  exact (hc i hi).1
theorem rw_of_set {w : World} {g : Nat} {l : List (Int × Int)} (h : Set w g l.length l.length l) : Rw w g (g + 1) (some ⟨g, 0, none⟩) l.length (pt l) := by
  intro _
  refine ⟨g, 0, rfl, Nat.le_refl _, by omega, fun i hi => ?_⟩
  rw [Nat.zero_add]
  exact ⟨h.2.2 i _ hi (pt_get hi), (h.2.1 i hi).2.2⟩
/-- two cells written -/
theorem rw_store {w : World} {lo B b off n k : Nat} {f : Nat → Int × Int} (h : Rw w lo B (some ⟨b, off, none⟩) n f) (hk : k < n) (x y : Int) :
    Rw ((w.setCell ⟨b, off + k * 2, none⟩ (.int .i64 x)).setCell ⟨b, off + k * 2 + 1, none⟩ (.int .i64 y)) lo B (some ⟨b, off, none⟩) n (fun j => if j = k then (x, y) else f j) := by
  intro hn
  obtain ⟨b', off', e, hb1, hb2, hc⟩ := h hn
  injection e with e
  injection e with e1 e2
  subst e1 e2
  have ne : ∀ (W : World) (o o' : Nat) (v : Value), o' ≠ o → (W.setCell ⟨b, o', none⟩ v).cell? ⟨b, o, none⟩ = W.cell? ⟨b, o, none⟩ := fun W o o' v h =>
    World.cell?_setCell_other W _ _ _ (fun e => h (by injection e))
  have sm : ∀ (W : World) (o : Nat) (u v : Value), W.cell? ⟨b, o, none⟩ = some u → (W.setCell ⟨b, o, none⟩ v).cell? ⟨b, o, none⟩ = some v := fun W o u v h => World.cell?_setCell_same W _ _ h
  refine ⟨b, off, rfl, hb1, hb2, fun i hi => ?_⟩
  obtain ⟨⟨c1, c2⟩, z1, z2⟩ := hc i hi
  refine ⟨?_, ?_, ?_⟩
  · by_cases hik : i = k
    · subst hik
      simp only [if_true]
      have c2' : (w.setCell ⟨b, off + i * 2, none⟩ (.int .i64 x)).cell? ⟨b, off + i * 2 + 1, none⟩ = some (.int .i64 (f i).2) := by rw [ne _ _ _ _ (by omega)]; exact c2
      exact ⟨by rw [ne _ _ _ _ (by omega)]; exact sm _ _ _ _ c1, sm _ _ _ _ c2'⟩
    · simp only [hik, if_false]
      rw [ne _ _ _ _ (by omega), ne _ _ _ _ (by omega), ne _ _ _ _ (by omega), ne _ _ _ _ (by omega)]
      exact ⟨c1, c2⟩
  · rw [World.frozen?_setCell, World.frozen?_setCell]; exact z1
  · rw [World.frozen?_setCell, World.frozen?_setCell]; exact z2
end Go.Proofs.Ytacabmbajadbgaa
/- an argument that is a list of points, opened -/
namespace Go.Proofs.Ytacabmbajadbgaa
open Go.ChangeShapes Go.WideShapes Go.ChangeAt Go.RowKit Go.Joins
set_option linter.unusedVariables false
set_option linter.unusedSimpArgs false
set_option maxRecDepth 4000
open Go.Deep
theorem lt_of_cell {w : World} {a : Addr} {u : Value} (h : w.cell? a = some u) : a.block < w.heap.size := by
  rcases Nat.lt_or_ge a.block w.heap.size with h1 | h1
  · exact h1
  · unfold World.cell? at h
    rw [Array.getElem?_eq_none h1] at h
    simp at h
section
variable {H : Type} {enc : TypeId × Value → H}
/-- a point of the laws' package, read from two cells -/
theorem read_peg {w : World} {base : Nat} {spare : Nat → Bool} {held : Bool} {fuel : Nat} {c0 c1 : Value} {x : DataW H × List MemPlace}
    (h : DataW.trod enc Try.prog w base spare held fuel 51 [c0, c1] = some x) : ∃ a b : Int, c0 = .int .i64 a ∧ c1 = .int .i64 b := by
  obtain ⟨xs, n, _, _, _, hlen, hg⟩ := DataW.trod_struct Try.underlying51 h
  have g0 : DataW.trod enc Try.prog w base spare held n 3 ((List.drop 0 [c0, c1]).take (Try.prog.cellsOf 3)) = xs[0]? := hg 0 _ rfl
  have g1 : DataW.trod enc Try.prog w base spare held n 3 ((List.drop 1 [c0, c1]).take (Try.prog.cellsOf 3)) = xs[1]? := hg 1 _ rfl
  have k3 : Try.prog.cellsOf 3 = 1 := by kernel_rfl
  rw [k3] at g0 g1
  match xs, hlen with
  | [y0, y1], _ =>
    simp only [List.drop_zero, List.drop_succ_cons, List.take_succ_cons, List.take_zero, List.getElem?_cons_zero, List.getElem?_cons_succ] at g0 g1
    obtain ⟨a, e0, _, _⟩ := DataW.trod_int Try.underlying3 g0
    obtain ⟨b, e1, _, _⟩ := DataW.trod_int Try.underlying3 g1
    simp only [List.cons.injEq, and_true] at e0 e1
    exact ⟨a, b, e0, e1⟩
end
end Go.Proofs.Ytacabmbajadbgaa
/- lists of numbers that are read; l1All at any of them; moves of the model -/
namespace Go.Proofs.Ytacabmbajadbgaa
open Go.ChangeShapes Go.WideShapes Go.ChangeAt Go.RowKit Go.Joins
set_option linter.unusedVariables false
set_option linter.unusedSimpArgs false
set_option maxRecDepth 4000
/-- the slice's cells from address A on hold the numbers f 0, .., f (n - 1), below block z -/
def RdI (w : World) (z : Nat) (A : Option Addr) (n : Nat) (f : Nat → Int) : Prop :=
  0 < n → ∃ b off, A = some ⟨b, off, none⟩ ∧ b < z ∧ ∀ i, i < n → w.cell? ⟨b, off + i, none⟩ = some (.int .i64 (f i))
theorem rdi_below {w w' : World} {z : Nat} {A : Option Addr} {n : Nat} {f : Nat → Int} (h : RdI w z A n f) (hb : Below w.heap.size w w') (hz : z ≤ w.heap.size) : RdI w' w'.heap.size A n f := fun hn => by
  obtain ⟨b, off, e, h1, h2⟩ := h hn
  have := hb.size
  exact ⟨b, off, e, by omega, fun i hi => ((bcell hb).1 _ _ (by omega)).trans (h2 i hi)⟩
def inQ (lo hi k : Int) : Bool := decide (lo ≤ k) && decide (k ≤ hi)
def allIn (lo hi : Int) (f : Nat → Int) : Nat → Bool
  | 0 => true
  | n + 1 => allIn lo hi f n && inQ lo hi (f n)
theorem allIn_false {lo hi : Int} {f : Nat → Int} {k n : Nat} (h : k < n) (hf : inQ lo hi (f k) = false) : allIn lo hi f n = false := by
  induction n with
  | zero => omega
  | succ m ih =>
    by_cases hk : k = m
    · subst hk; show (_ && _) = false; rw [hf]; simp
    · show (_ && _) = false; rw [ih (by omega)]; rfl
set_option maxHeartbeats 1000000 in
theorem l1All_any (A : Option Addr) (c n : Nat) (f : Nat → Int) (lo hi : Int) (w : World) (hn : n ≤ 1048576) (hR : RdI w w.heap.size A n f) :
    Calls Try.prog 105 #[.slice A n c, .int .i64 lo, .int .i64 hi] w fun e w' => e = .returned (.bool (allIn lo hi f n)) ∧ Below w.heap.size w w' := by
  have KI := Lib.hid (fun x W => l1In_any x lo hi W)
  have HR := Lib.hid (fun W (hb : Below w.heap.size w W) => rdi_below hR hb (Nat.le_refl _))
  clear hR
  go_enter Try.func105, Try.ntmps105
  go_wp2_with fail
  go_loopg [11] n (fun g i wr => ∃ k : Nat, k ≤ n ∧ g = n - k ∧ i = .int .i64 k ∧ Below w.heap.size w wr ∧ Hid (allIn lo hi f k = true))
  case atStart => exact ⟨0, Nat.zero_le _, rfl, rfl, Below.refl _ _, Lib.hid rfl⟩
  case round =>
    obtain ⟨k, hk, hg, rfl, hB, hF⟩ := hrel
    rename World => wo
    have HGK := Lib.hid hg
    clear hg
    by_cases hkn : k < n
    · obtain ⟨b, off, rfl, hb, hc⟩ := HR.out wo hB (by omega)
      have h0 := hc k hkn
      by_cases hq : inQ lo hi (f k) = true
      · have HN := Lib.hid hq
        unfold inQ at hq
        have F2 := Lib.hid (show allIn lo hi f (k + 1) = true by show (_ && _) = true; rw [hF.out, HN.out]; rfl)
        clear hc HR hF
        go_wp2_with fail
        refine (KI.out _ _).mono ?_; rintro e _ ⟨rfl, rfl⟩
        rw [hq]
        clear hq
        go_wp2_with fail
        go_roundg (n - (k + 1))
        case measure => have := HGK.out; omega
        case rel => exact ⟨k + 1, by omega, rfl, by go_num, hB, F2⟩
      · have hq2 : inQ lo hi (f k) = false := by simpa using hq
        have HN := Lib.hid (allIn_false (n := n) hkn hq2)
        unfold inQ at hq2
        clear hq hc HR hF
        go_wp2_with fail
        refine (KI.out _ _).mono ?_; rintro e _ ⟨rfl, rfl⟩
        rw [hq2]
        clear hq2
        go_wp2_with fail
        go_ret
        exact ⟨ret_bool HN.out.symm, hB⟩
    · have hkn : n = k := by omega
      subst hkn
      go_wp2_with fail
      go_ret
      exact ⟨ret_bool hF.out.symm, hB⟩
end Go.Proofs.Ytacabmbajadbgaa
/- what a clue is; contracts: clues, the model -/
namespace Go.Proofs.Ytacabmbajadbgaa
open Go.ChangeShapes Go.WideShapes Go.ChangeAt Go.RowKit Go.Joins
set_option linter.unusedVariables false
set_option linter.unusedSimpArgs false
set_option maxRecDepth 4000
/-- the greatest numbers of a clue -/
def mA (k s : Int) : Int := if k = 2 then 2 * s else s
def mB (k s : Int) : Int := if k = 3 ∨ k = 4 ∨ k = 5 then s else 0
def mC (k s : Int) : Int := if k = 3 then s * s else if k = 4 then 2 * s * s else if k = 5 then 1 else 0
def kindB (k : Int) : Bool := decide (k = 0) || decide (k = 1) || decide (k = 2) || decide (k = 3) || decide (k = 4) || decide (k = 5)
def clueB (s k a b c : Int) : Bool := kindB k && (inQ 0 (mA k s) a && (inQ 0 (mB k s) b && inQ 0 (mC k s) c))
theorem kinds (k : Int) : k = 0 ∨ k = 1 ∨ k = 2 ∨ k = 3 ∨ k = 4 ∨ k = 5 ∨ (k ≠ 0 ∧ k ≠ 1 ∧ k ≠ 2 ∧ k ≠ 3 ∧ k ≠ 4 ∧ k ≠ 5) := by omega
theorem kindB_f {k : Int} (h : k ≠ 0 ∧ k ≠ 1 ∧ k ≠ 2 ∧ k ≠ 3 ∧ k ≠ 4 ∧ k ≠ 5) : kindB k = false := by
  obtain ⟨h0, h1, h2, h3, h4, h5⟩ := h
  unfold kindB
  simp [h0, h1, h2, h3, h4, h5]
theorem inQ_00 (b : Int) : inQ 0 0 b = decide (b = 0) := by
  unfold inQ
  by_cases h : b = 0
  · subst h; rfl
  · rw [decide_eq_false h]
    by_cases h1 : 0 ≤ b
    · rw [decide_eq_false (show ¬ b ≤ 0 by omega)]; simp
    · rw [decide_eq_false h1]; rfl
theorem sq_12 {s : Int} (h1 : 1 ≤ s) (h2 : s ≤ 12) : 1 ≤ s * s ∧ s * s ≤ 144 := by
  have h : s = 1 ∨ s = 2 ∨ s = 3 ∨ s = 4 ∨ s = 5 ∨ s = 6 ∨ s = 7 ∨ s = 8 ∨ s = 9 ∨ s = 10 ∨ s = 11 ∨ s = 12 := by omega
  rcases h with rfl | rfl | rfl | rfl | rfl | rfl | rfl | rfl | rfl | rfl | rfl | rfl <;> decide
theorem inQ_any (n lo hi : Int) (w : World) : Calls Try.prog 55 #[.int .i64 n, .int .i64 lo, .int .i64 hi] w fun e w' => e = .returned (.bool (inQ lo hi n)) ∧ w = w' := l1In_any n lo hi w
theorem pzSide_any (s : Int) (w : World) : Calls Try.prog 73 #[.int .i64 s] w fun e w' => e = .returned (.bool (inQ 1 12 s)) ∧ w = w' := by
  have K := Lib.hid (fun W => inQ_any s 1 12 W)
  generalize inQ 1 12 s = b at *
  go_enter Try.func73, Try.ntmps73
  go_wp2_with fail
  refine (K.out _).mono ?_; rintro e _ ⟨rfl, rfl⟩
  go_wp2_with fail
  go_ret
  exact ⟨rfl, rfl⟩
set_option maxHeartbeats 4000000 in
theorem pzClue_any (s k a b c : Int) (w : World) (h1 : 1 ≤ s) (h2 : s ≤ 12) :
    Calls Try.prog 63 #[.int .i64 s, .agg #[.int .i64 k, .int .i64 a, .int .i64 b, .int .i64 c]] w fun e w' => e = .returned (.bool (clueB s k a b c)) ∧ Below w.heap.size w w' := by
  obtain ⟨q1, q2⟩ := sq_12 h1 h2
  have i1 : IntKind.i64.wrap (2 * s) = 2 * s := IntWalk.i64_in _ (by omega)
  have i2 : IntKind.i64.wrap (s * s) = s * s := IntWalk.i64_in _ (by omega)
  have e2 : 2 * s * s = 2 * (s * s) := by rw [Int.mul_assoc]
  have i3 : IntKind.i64.wrap (2 * s * s) = 2 * s * s := IntWalk.i64_in _ (by omega)
  clear q1 q2 e2
  have HB := Lib.hid (Below.alloc (Below.refl w.heap.size w) (Nat.le_refl _) (.cells #[.int .i64 k, .int .i64 a, .int .i64 b, .int .i64 c] 38))
  rcases kinds k with rfl | rfl | rfl | rfl | rfl | rfl | hk
  · have hd : Hid (clueB s 0 a b c = (inQ 0 (s) a && (decide (b = 0) && decide (c = 0)))) := Lib.hid (by unfold clueB mA mB mC kindB; simp [inQ_00])
    have KA := Lib.hid (fun W => inQ_any a 0 (s) W)
    generalize inQ 0 (s) a = qa at *
    rw [hd.out]
    clear hd
    cases qa
    · go_enter Try.func63, Try.ntmps63
      go_wp2_with fail
      refine (KA.out _).mono ?_; rintro e _ ⟨rfl, rfl⟩
      go_wp2_with fail
      go_ret
      exact ⟨rfl, HB.out⟩
    · by_cases hb : b = 0
      · subst hb
        by_cases hc : c = 0
        · subst hc
          go_enter Try.func63, Try.ntmps63
          go_wp2_with fail
          refine (KA.out _).mono ?_; rintro e _ ⟨rfl, rfl⟩
          go_wp2_with fail
          go_ret
          exact ⟨rfl, HB.out⟩
        · go_enter Try.func63, Try.ntmps63
          go_wp2_with fail
          refine (KA.out _).mono ?_; rintro e _ ⟨rfl, rfl⟩
          go_wp2_with fail
          go_ret
          exact ⟨ret_bool (by simp [hc]), HB.out⟩
      · go_enter Try.func63, Try.ntmps63
        go_wp2_with fail
        refine (KA.out _).mono ?_; rintro e _ ⟨rfl, rfl⟩
        go_wp2_with fail
        go_ret
        exact ⟨ret_bool (by simp [hb]), HB.out⟩
  · have hd : Hid (clueB s 1 a b c = (inQ 0 (s) a && (decide (b = 0) && decide (c = 0)))) := Lib.hid (by unfold clueB mA mB mC kindB; simp [inQ_00])
    have KA := Lib.hid (fun W => inQ_any a 0 (s) W)
    generalize inQ 0 (s) a = qa at *
    rw [hd.out]
    clear hd
    cases qa
    · go_enter Try.func63, Try.ntmps63
      go_wp2_with fail
      refine (KA.out _).mono ?_; rintro e _ ⟨rfl, rfl⟩
      go_wp2_with fail
      go_ret
      exact ⟨rfl, HB.out⟩
    · by_cases hb : b = 0
      · subst hb
        by_cases hc : c = 0
        · subst hc
          go_enter Try.func63, Try.ntmps63
          go_wp2_with fail
          refine (KA.out _).mono ?_; rintro e _ ⟨rfl, rfl⟩
          go_wp2_with fail
          go_ret
          exact ⟨rfl, HB.out⟩
        · go_enter Try.func63, Try.ntmps63
          go_wp2_with fail
          refine (KA.out _).mono ?_; rintro e _ ⟨rfl, rfl⟩
          go_wp2_with fail
          go_ret
          exact ⟨ret_bool (by simp [hc]), HB.out⟩
      · go_enter Try.func63, Try.ntmps63
        go_wp2_with fail
        refine (KA.out _).mono ?_; rintro e _ ⟨rfl, rfl⟩
        go_wp2_with fail
        go_ret
        exact ⟨ret_bool (by simp [hb]), HB.out⟩
  · have hd : Hid (clueB s 2 a b c = (inQ 0 (2 * s) a && (decide (b = 0) && decide (c = 0)))) := Lib.hid (by unfold clueB mA mB mC kindB; simp [inQ_00])
    have KA := Lib.hid (fun W => inQ_any a 0 (2 * s) W)
    generalize inQ 0 (2 * s) a = qa at *
    rw [hd.out]
    clear hd
    cases qa
    · go_enter Try.func63, Try.ntmps63
      go_wp2_with fail
      refine (KA.out _).mono ?_; rintro e _ ⟨rfl, rfl⟩
      go_wp2_with fail
      go_ret
      exact ⟨rfl, HB.out⟩
    · by_cases hb : b = 0
      · subst hb
        by_cases hc : c = 0
        · subst hc
          go_enter Try.func63, Try.ntmps63
          go_wp2_with fail
          refine (KA.out _).mono ?_; rintro e _ ⟨rfl, rfl⟩
          go_wp2_with fail
          go_ret
          exact ⟨rfl, HB.out⟩
        · go_enter Try.func63, Try.ntmps63
          go_wp2_with fail
          refine (KA.out _).mono ?_; rintro e _ ⟨rfl, rfl⟩
          go_wp2_with fail
          go_ret
          exact ⟨ret_bool (by simp [hc]), HB.out⟩
      · go_enter Try.func63, Try.ntmps63
        go_wp2_with fail
        refine (KA.out _).mono ?_; rintro e _ ⟨rfl, rfl⟩
        go_wp2_with fail
        go_ret
        exact ⟨ret_bool (by simp [hb]), HB.out⟩
  · have hd : Hid (clueB s 3 a b c = (inQ 0 (s) a && (inQ 0 s b && inQ 0 (s * s) c))) := Lib.hid (by unfold clueB mA mB mC kindB; simp)
    have KA := Lib.hid (fun W => inQ_any a 0 (s) W)
    have KB := Lib.hid (fun W => inQ_any b 0 s W)
    have KC := Lib.hid (fun W => inQ_any c 0 (s * s) W)
    generalize inQ 0 s a = qa at *
    generalize inQ 0 s b = qb at *
    generalize inQ 0 (s * s) c = qc at *
    rw [hd.out]
    clear hd
    cases qa
    · go_enter Try.func63, Try.ntmps63
      go_wp2_with fail
      refine (KA.out _).mono ?_; rintro e _ ⟨rfl, rfl⟩
      go_wp2_with fail
      go_ret
      exact ⟨rfl, HB.out⟩
    · cases qb
      · go_enter Try.func63, Try.ntmps63
        go_wp2_with fail
        refine (KA.out _).mono ?_; rintro e _ ⟨rfl, rfl⟩
        go_wp2_with fail
        refine (KB.out _).mono ?_; rintro e _ ⟨rfl, rfl⟩
        go_wp2_with fail
        go_ret
        exact ⟨rfl, HB.out⟩
      · go_enter Try.func63, Try.ntmps63
        go_wp2_with fail
        refine (KA.out _).mono ?_; rintro e _ ⟨rfl, rfl⟩
        go_wp2_with fail
        refine (KB.out _).mono ?_; rintro e _ ⟨rfl, rfl⟩
        go_wp2_with fail
        refine (KC.out _).mono ?_; rintro e _ ⟨rfl, rfl⟩
        go_wp2_with fail
        go_ret
        exact ⟨rfl, HB.out⟩
  · have hd : Hid (clueB s 4 a b c = (inQ 0 (s) a && (inQ 0 s b && inQ 0 (2 * s * s) c))) := Lib.hid (by unfold clueB mA mB mC kindB; simp)
    have KA := Lib.hid (fun W => inQ_any a 0 (s) W)
    have KB := Lib.hid (fun W => inQ_any b 0 s W)
    have KC := Lib.hid (fun W => inQ_any c 0 (2 * s * s) W)
    generalize inQ 0 s a = qa at *
    generalize inQ 0 s b = qb at *
    generalize inQ 0 (2 * s * s) c = qc at *
    rw [hd.out]
    clear hd
    cases qa
    · go_enter Try.func63, Try.ntmps63
      go_wp2_with fail
      refine (KA.out _).mono ?_; rintro e _ ⟨rfl, rfl⟩
      go_wp2_with fail
      go_ret
      exact ⟨rfl, HB.out⟩
    · cases qb
      · go_enter Try.func63, Try.ntmps63
        go_wp2_with fail
        refine (KA.out _).mono ?_; rintro e _ ⟨rfl, rfl⟩
        go_wp2_with fail
        refine (KB.out _).mono ?_; rintro e _ ⟨rfl, rfl⟩
        go_wp2_with fail
        go_ret
        exact ⟨rfl, HB.out⟩
      · go_enter Try.func63, Try.ntmps63
        go_wp2_with fail
        refine (KA.out _).mono ?_; rintro e _ ⟨rfl, rfl⟩
        go_wp2_with fail
        refine (KB.out _).mono ?_; rintro e _ ⟨rfl, rfl⟩
        go_wp2_with fail
        refine (KC.out _).mono ?_; rintro e _ ⟨rfl, rfl⟩
        go_wp2_with fail
        go_ret
        exact ⟨rfl, HB.out⟩
  · have hd : Hid (clueB s 5 a b c = (inQ 0 (s) a && (inQ 0 s b && inQ 0 (1) c))) := Lib.hid (by unfold clueB mA mB mC kindB; simp)
    have KA := Lib.hid (fun W => inQ_any a 0 (s) W)
    have KB := Lib.hid (fun W => inQ_any b 0 s W)
    have KC := Lib.hid (fun W => inQ_any c 0 (1) W)
    generalize inQ 0 s a = qa at *
    generalize inQ 0 s b = qb at *
    generalize inQ 0 (1) c = qc at *
    rw [hd.out]
    clear hd
    cases qa
    · go_enter Try.func63, Try.ntmps63
      go_wp2_with fail
      refine (KA.out _).mono ?_; rintro e _ ⟨rfl, rfl⟩
      go_wp2_with fail
      go_ret
      exact ⟨rfl, HB.out⟩
    · cases qb
      · go_enter Try.func63, Try.ntmps63
        go_wp2_with fail
        refine (KA.out _).mono ?_; rintro e _ ⟨rfl, rfl⟩
        go_wp2_with fail
        refine (KB.out _).mono ?_; rintro e _ ⟨rfl, rfl⟩
        go_wp2_with fail
        go_ret
        exact ⟨rfl, HB.out⟩
      · go_enter Try.func63, Try.ntmps63
        go_wp2_with fail
        refine (KA.out _).mono ?_; rintro e _ ⟨rfl, rfl⟩
        go_wp2_with fail
        refine (KB.out _).mono ?_; rintro e _ ⟨rfl, rfl⟩
        go_wp2_with fail
        refine (KC.out _).mono ?_; rintro e _ ⟨rfl, rfl⟩
        go_wp2_with fail
        go_ret
        exact ⟨rfl, HB.out⟩
  · have hd : Hid (clueB s k a b c = false) := Lib.hid (by unfold clueB; rw [kindB_f hk]; rfl)
    obtain ⟨k0, k1, k2, k3, k4, k5⟩ := hk
    rw [hd.out]
    go_enter Try.func63, Try.ntmps63
    go_wp2_with fail
    go_ret
    exact ⟨rfl, HB.out⟩
end Go.Proofs.Ytacabmbajadbgaa
/- contracts: clues, the program: the greatest numbers of a clue; a clue that is none is raised -/
namespace Go.Proofs.Ytacabmbajadbgaa
open Go.ChangeShapes Go.WideShapes Go.ChangeAt Go.RowKit Go.Joins
set_option linter.unusedVariables false
set_option linter.unusedSimpArgs false
set_option maxRecDepth 4000
/-- the panic with a clue -/
def pnc (k a b c : Int) : Ending := .panicked [{ v := .iface 38 (.agg #[.int .i64 k, .int .i64 a, .int .i64 b, .int .i64 c]), recovered := false }]
def mstE (s k a b c : Int) : Ending := if kindB k = true then .returned (.agg #[.int .i64 k, .int .i64 (mA k s), .int .i64 (mB k s), .int .i64 (mC k s)]) else pnc k a b c
set_option maxHeartbeats 4000000 in
theorem greatest_any (s k a b c : Int) (w : World) (h1 : 1 ≤ s) (h2 : s ≤ 12) :
    Calls Try.prog 126 #[.agg #[.int .i64 k, .int .i64 a, .int .i64 b, .int .i64 c], .int .i64 s] w fun e w' => e = mstE s k a b c ∧ Below w.heap.size w w' := by
  obtain ⟨q1, q2⟩ := sq_12 h1 h2
  have i1 : IntKind.i64.wrap (2 * s) = 2 * s := IntWalk.i64_in _ (by omega)
  have i2 : IntKind.i64.wrap (s * s) = s * s := IntWalk.i64_in _ (by omega)
  have e2 : 2 * s * s = 2 * (s * s) := by rw [Int.mul_assoc]
  have i3 : IntKind.i64.wrap (2 * s * s) = 2 * s * s := IntWalk.i64_in _ (by omega)
  clear q1 q2 e2
  rcases kinds k with rfl | rfl | rfl | rfl | rfl | rfl | hk
  case inr.inr.inr.inr.inr.inr =>
    have hd : Hid (mstE s k a b c = pnc k a b c) := Lib.hid (by unfold mstE; rw [kindB_f hk]; rfl)
    obtain ⟨k0, k1, k2, k3, k4, k5⟩ := hk
    rw [hd.out]
    go_enter Try.func126, Try.ntmps126
    go_wp2_with fail
    exact ⟨rfl, rfl, (by repeat (first | exact Below.refl _ _ | assumption | apply Below.drew | refine Below.alloc ?_ (by simp <;> omega) _))⟩
  · have hd : Hid (mstE s 0 a b c = .returned (.agg #[.int .i64 0, .int .i64 (s), .int .i64 (0), .int .i64 (0)])) := Lib.hid (by unfold mstE kindB mA mB mC; simp)
    rw [hd.out]
    go_enter Try.func126, Try.ntmps126
    go_wp2_with fail
    refine bodyPost_ret (v := .agg #[.int .i64 0, .int .i64 (s), .int .i64 (0), .int .i64 (0)]) (by simp [results, Try.results126, go_sem]) rfl ⟨rfl, ?_⟩
    repeat (first | with_reducible assumption | with_reducible exact Below.refl _ _ | with_reducible apply Below.drew | ((with_reducible refine Below.setCell ?_ ?_ _); rotate_left; (first | exact Nat.le_refl _ | omega | (simp <;> omega))) | ((with_reducible refine Below.alloc ?_ ?_ _); rotate_left; (first | omega | (simp <;> omega))))
  · have hd : Hid (mstE s 1 a b c = .returned (.agg #[.int .i64 1, .int .i64 (s), .int .i64 (0), .int .i64 (0)])) := Lib.hid (by unfold mstE kindB mA mB mC; simp)
    rw [hd.out]
    go_enter Try.func126, Try.ntmps126
    go_wp2_with fail
    refine bodyPost_ret (v := .agg #[.int .i64 1, .int .i64 (s), .int .i64 (0), .int .i64 (0)]) (by simp [results, Try.results126, go_sem]) rfl ⟨rfl, ?_⟩
    repeat (first | with_reducible assumption | with_reducible exact Below.refl _ _ | with_reducible apply Below.drew | ((with_reducible refine Below.setCell ?_ ?_ _); rotate_left; (first | exact Nat.le_refl _ | omega | (simp <;> omega))) | ((with_reducible refine Below.alloc ?_ ?_ _); rotate_left; (first | omega | (simp <;> omega))))
  · have hd : Hid (mstE s 2 a b c = .returned (.agg #[.int .i64 2, .int .i64 (2 * s), .int .i64 (0), .int .i64 (0)])) := Lib.hid (by unfold mstE kindB mA mB mC; simp)
    rw [hd.out]
    go_enter Try.func126, Try.ntmps126
    go_wp2_with fail
    refine bodyPost_ret (v := .agg #[.int .i64 2, .int .i64 (2 * s), .int .i64 (0), .int .i64 (0)]) (by simp [results, Try.results126, go_sem]) rfl ⟨rfl, ?_⟩
    repeat (first | with_reducible assumption | with_reducible exact Below.refl _ _ | with_reducible apply Below.drew | ((with_reducible refine Below.setCell ?_ ?_ _); rotate_left; (first | exact Nat.le_refl _ | omega | (simp <;> omega))) | ((with_reducible refine Below.alloc ?_ ?_ _); rotate_left; (first | omega | (simp <;> omega))))
  · have hd : Hid (mstE s 3 a b c = .returned (.agg #[.int .i64 3, .int .i64 (s), .int .i64 (s), .int .i64 (s * s)])) := Lib.hid (by unfold mstE kindB mA mB mC; simp)
    rw [hd.out]
    go_enter Try.func126, Try.ntmps126
    go_wp2_with fail
    refine bodyPost_ret (v := .agg #[.int .i64 3, .int .i64 (s), .int .i64 (s), .int .i64 (s * s)]) (by simp [results, Try.results126, go_sem]) rfl ⟨rfl, ?_⟩
    repeat (first | with_reducible assumption | with_reducible exact Below.refl _ _ | with_reducible apply Below.drew | ((with_reducible refine Below.setCell ?_ ?_ _); rotate_left; (first | exact Nat.le_refl _ | omega | (simp <;> omega))) | ((with_reducible refine Below.alloc ?_ ?_ _); rotate_left; (first | omega | (simp <;> omega))))
  · have hd : Hid (mstE s 4 a b c = .returned (.agg #[.int .i64 4, .int .i64 (s), .int .i64 (s), .int .i64 (2 * s * s)])) := Lib.hid (by unfold mstE kindB mA mB mC; simp)
    rw [hd.out]
    go_enter Try.func126, Try.ntmps126
    go_wp2_with fail
    refine bodyPost_ret (v := .agg #[.int .i64 4, .int .i64 (s), .int .i64 (s), .int .i64 (2 * s * s)]) (by simp [results, Try.results126, go_sem]) rfl ⟨rfl, ?_⟩
    repeat (first | with_reducible assumption | with_reducible exact Below.refl _ _ | with_reducible apply Below.drew | ((with_reducible refine Below.setCell ?_ ?_ _); rotate_left; (first | exact Nat.le_refl _ | omega | (simp <;> omega))) | ((with_reducible refine Below.alloc ?_ ?_ _); rotate_left; (first | omega | (simp <;> omega))))
  · have hd : Hid (mstE s 5 a b c = .returned (.agg #[.int .i64 5, .int .i64 (s), .int .i64 (s), .int .i64 (1)])) := Lib.hid (by unfold mstE kindB mA mB mC; simp)
    rw [hd.out]
    go_enter Try.func126, Try.ntmps126
    go_wp2_with fail
    refine bodyPost_ret (v := .agg #[.int .i64 5, .int .i64 (s), .int .i64 (s), .int .i64 (1)]) (by simp [results, Try.results126, go_sem]) rfl ⟨rfl, ?_⟩
    repeat (first | with_reducible assumption | with_reducible exact Below.refl _ _ | with_reducible apply Below.drew | ((with_reducible refine Below.setCell ?_ ?_ _); rotate_left; (first | exact Nat.le_refl _ | omega | (simp <;> omega))) | ((with_reducible refine Below.alloc ?_ ?_ _); rotate_left; (first | omega | (simp <;> omega))))
def raiE (s k a b c : Int) : Ending := if clueB s k a b c = true then .returned (.tuple #[]) else pnc k a b c
theorem inQ_t {lo hi n : Int} (h : inQ lo hi n = true) : ¬ n < lo ∧ ¬ hi < n := by unfold inQ at h; simp at h; omega
theorem inQ_f {lo hi n : Int} (h : inQ lo hi n = false) : n < lo ∨ (¬ n < lo ∧ hi < n) := by unfold inQ at h; simp at h; omega
set_option maxHeartbeats 4000000 in
theorem raise_any (s k a b c : Int) (w : World) (h1 : 1 ≤ s) (h2 : s ≤ 12) :
    Calls Try.prog 114 #[.agg #[.int .i64 k, .int .i64 a, .int .i64 b, .int .i64 c], .int .i64 s] w fun e w' => e = raiE s k a b c ∧ Below w.heap.size w w' := by
  have KG := Lib.hid (fun W => greatest_any s k a b c W h1 h2)
  have HB := Lib.hid (Below.alloc (Below.refl w.heap.size w) (Nat.le_refl _) (.cells #[.int .i64 k, .int .i64 a, .int .i64 b, .int .i64 c] 38))
  clear h1 h2
  by_cases hk : kindB k = true
  · have hm : mstE s k a b c = .returned (.agg #[.int .i64 k, .int .i64 (mA k s), .int .i64 (mB k s), .int .i64 (mC k s)]) := by unfold mstE; rw [if_pos hk]
    have hr : Hid (raiE s k a b c = if (inQ 0 (mA k s) a && (inQ 0 (mB k s) b && inQ 0 (mC k s) c)) = true then .returned (.tuple #[]) else pnc k a b c) := Lib.hid (by unfold raiE clueB; rw [hk, Bool.true_and])
    rw [hm] at KG
    rw [hr.out]
    clear hk hm hr
    generalize mA k s = ma at *
    generalize mB k s = mb at *
    generalize mC k s = mc at *
    cases qa : inQ 0 ma a
    · rw [if_neg (by simp [qa])]
      rcases inQ_f qa with ha | ⟨ha, ga⟩
      · clear qa
        unfold pnc
        go_enter Try.func114, Try.ntmps114
        go_wp2_with fail
        refine (KG.out _).mono ?_; rintro e w1 ⟨rfl, hb1⟩
        have B1 := HB.out.trans (hb1.mono HB.out.size)
        have y0 : w1.cell? ⟨w.heap.size, 0, none⟩ = some (.int .i64 k) := ((bcell hb1).1 w.heap.size 0 (by simp)).trans (by go_simp)
        have y1 : w1.cell? ⟨w.heap.size, 1, none⟩ = some (.int .i64 a) := ((bcell hb1).1 w.heap.size 1 (by simp)).trans (by go_simp)
        have y2 : w1.cell? ⟨w.heap.size, 2, none⟩ = some (.int .i64 b) := ((bcell hb1).1 w.heap.size 2 (by simp)).trans (by go_simp)
        have y3 : w1.cell? ⟨w.heap.size, 3, none⟩ = some (.int .i64 c) := ((bcell hb1).1 w.heap.size 3 (by simp)).trans (by go_simp)
        have z1 : w.heap.size < w1.heap.size := by have := hb1.size; simp at this; omega
        clear hb1
        go_wp2_with fail
        exact ⟨rfl, rfl, by repeat (first | with_reducible assumption | with_reducible exact Below.refl _ _ | with_reducible apply Below.drew | ((with_reducible refine Below.setCell ?_ ?_ _); rotate_left; (first | exact Nat.le_refl _ | omega | (simp <;> omega))) | ((with_reducible refine Below.alloc ?_ ?_ _); rotate_left; (first | omega | (simp <;> omega))))⟩
      · clear qa
        unfold pnc
        go_enter Try.func114, Try.ntmps114
        go_wp2_with fail
        refine (KG.out _).mono ?_; rintro e w1 ⟨rfl, hb1⟩
        have B1 := HB.out.trans (hb1.mono HB.out.size)
        have y0 : w1.cell? ⟨w.heap.size, 0, none⟩ = some (.int .i64 k) := ((bcell hb1).1 w.heap.size 0 (by simp)).trans (by go_simp)
        have y1 : w1.cell? ⟨w.heap.size, 1, none⟩ = some (.int .i64 a) := ((bcell hb1).1 w.heap.size 1 (by simp)).trans (by go_simp)
        have y2 : w1.cell? ⟨w.heap.size, 2, none⟩ = some (.int .i64 b) := ((bcell hb1).1 w.heap.size 2 (by simp)).trans (by go_simp)
        have y3 : w1.cell? ⟨w.heap.size, 3, none⟩ = some (.int .i64 c) := ((bcell hb1).1 w.heap.size 3 (by simp)).trans (by go_simp)
        have z1 : w.heap.size < w1.heap.size := by have := hb1.size; simp at this; omega
        clear hb1
        go_wp2_with fail
        exact ⟨rfl, rfl, by repeat (first | with_reducible assumption | with_reducible exact Below.refl _ _ | with_reducible apply Below.drew | ((with_reducible refine Below.setCell ?_ ?_ _); rotate_left; (first | exact Nat.le_refl _ | omega | (simp <;> omega))) | ((with_reducible refine Below.alloc ?_ ?_ _); rotate_left; (first | omega | (simp <;> omega))))⟩
    · obtain ⟨ha, ga⟩ := inQ_t qa
      cases qb : inQ 0 mb b
      · rw [if_neg (by simp [qa, qb])]
        rcases inQ_f qb with hb | ⟨hb, gb⟩
        · clear qa qb
          unfold pnc
          go_enter Try.func114, Try.ntmps114
          go_wp2_with fail
          refine (KG.out _).mono ?_; rintro e w1 ⟨rfl, hb1⟩
          have B1 := HB.out.trans (hb1.mono HB.out.size)
          have y0 : w1.cell? ⟨w.heap.size, 0, none⟩ = some (.int .i64 k) := ((bcell hb1).1 w.heap.size 0 (by simp)).trans (by go_simp)
          have y1 : w1.cell? ⟨w.heap.size, 1, none⟩ = some (.int .i64 a) := ((bcell hb1).1 w.heap.size 1 (by simp)).trans (by go_simp)
          have y2 : w1.cell? ⟨w.heap.size, 2, none⟩ = some (.int .i64 b) := ((bcell hb1).1 w.heap.size 2 (by simp)).trans (by go_simp)
          have y3 : w1.cell? ⟨w.heap.size, 3, none⟩ = some (.int .i64 c) := ((bcell hb1).1 w.heap.size 3 (by simp)).trans (by go_simp)
          have z1 : w.heap.size < w1.heap.size := by have := hb1.size; simp at this; omega
          clear hb1
          go_wp2_with fail
          exact ⟨rfl, rfl, by repeat (first | with_reducible assumption | with_reducible exact Below.refl _ _ | with_reducible apply Below.drew | ((with_reducible refine Below.setCell ?_ ?_ _); rotate_left; (first | exact Nat.le_refl _ | omega | (simp <;> omega))) | ((with_reducible refine Below.alloc ?_ ?_ _); rotate_left; (first | omega | (simp <;> omega))))⟩
        · clear qa qb
          unfold pnc
          go_enter Try.func114, Try.ntmps114
          go_wp2_with fail
          refine (KG.out _).mono ?_; rintro e w1 ⟨rfl, hb1⟩
          have B1 := HB.out.trans (hb1.mono HB.out.size)
          have y0 : w1.cell? ⟨w.heap.size, 0, none⟩ = some (.int .i64 k) := ((bcell hb1).1 w.heap.size 0 (by simp)).trans (by go_simp)
          have y1 : w1.cell? ⟨w.heap.size, 1, none⟩ = some (.int .i64 a) := ((bcell hb1).1 w.heap.size 1 (by simp)).trans (by go_simp)
          have y2 : w1.cell? ⟨w.heap.size, 2, none⟩ = some (.int .i64 b) := ((bcell hb1).1 w.heap.size 2 (by simp)).trans (by go_simp)
          have y3 : w1.cell? ⟨w.heap.size, 3, none⟩ = some (.int .i64 c) := ((bcell hb1).1 w.heap.size 3 (by simp)).trans (by go_simp)
          have z1 : w.heap.size < w1.heap.size := by have := hb1.size; simp at this; omega
          clear hb1
          go_wp2_with fail
          exact ⟨rfl, rfl, by repeat (first | with_reducible assumption | with_reducible exact Below.refl _ _ | with_reducible apply Below.drew | ((with_reducible refine Below.setCell ?_ ?_ _); rotate_left; (first | exact Nat.le_refl _ | omega | (simp <;> omega))) | ((with_reducible refine Below.alloc ?_ ?_ _); rotate_left; (first | omega | (simp <;> omega))))⟩
      · obtain ⟨hb, gb⟩ := inQ_t qb
        cases qc : inQ 0 mc c
        · rw [if_neg (by simp [qa, qb, qc])]
          rcases inQ_f qc with hc | ⟨hc, gc⟩
          · clear qa qb qc
            unfold pnc
            go_enter Try.func114, Try.ntmps114
            go_wp2_with fail
            refine (KG.out _).mono ?_; rintro e w1 ⟨rfl, hb1⟩
            have B1 := HB.out.trans (hb1.mono HB.out.size)
            have y0 : w1.cell? ⟨w.heap.size, 0, none⟩ = some (.int .i64 k) := ((bcell hb1).1 w.heap.size 0 (by simp)).trans (by go_simp)
            have y1 : w1.cell? ⟨w.heap.size, 1, none⟩ = some (.int .i64 a) := ((bcell hb1).1 w.heap.size 1 (by simp)).trans (by go_simp)
            have y2 : w1.cell? ⟨w.heap.size, 2, none⟩ = some (.int .i64 b) := ((bcell hb1).1 w.heap.size 2 (by simp)).trans (by go_simp)
            have y3 : w1.cell? ⟨w.heap.size, 3, none⟩ = some (.int .i64 c) := ((bcell hb1).1 w.heap.size 3 (by simp)).trans (by go_simp)
            have z1 : w.heap.size < w1.heap.size := by have := hb1.size; simp at this; omega
            clear hb1
            go_wp2_with fail
            exact ⟨rfl, rfl, by repeat (first | with_reducible assumption | with_reducible exact Below.refl _ _ | with_reducible apply Below.drew | ((with_reducible refine Below.setCell ?_ ?_ _); rotate_left; (first | exact Nat.le_refl _ | omega | (simp <;> omega))) | ((with_reducible refine Below.alloc ?_ ?_ _); rotate_left; (first | omega | (simp <;> omega))))⟩
          · clear qa qb qc
            unfold pnc
            go_enter Try.func114, Try.ntmps114
            go_wp2_with fail
            refine (KG.out _).mono ?_; rintro e w1 ⟨rfl, hb1⟩
            have B1 := HB.out.trans (hb1.mono HB.out.size)
            have y0 : w1.cell? ⟨w.heap.size, 0, none⟩ = some (.int .i64 k) := ((bcell hb1).1 w.heap.size 0 (by simp)).trans (by go_simp)
            have y1 : w1.cell? ⟨w.heap.size, 1, none⟩ = some (.int .i64 a) := ((bcell hb1).1 w.heap.size 1 (by simp)).trans (by go_simp)
            have y2 : w1.cell? ⟨w.heap.size, 2, none⟩ = some (.int .i64 b) := ((bcell hb1).1 w.heap.size 2 (by simp)).trans (by go_simp)
            have y3 : w1.cell? ⟨w.heap.size, 3, none⟩ = some (.int .i64 c) := ((bcell hb1).1 w.heap.size 3 (by simp)).trans (by go_simp)
            have z1 : w.heap.size < w1.heap.size := by have := hb1.size; simp at this; omega
            clear hb1
            go_wp2_with fail
            exact ⟨rfl, rfl, by repeat (first | with_reducible assumption | with_reducible exact Below.refl _ _ | with_reducible apply Below.drew | ((with_reducible refine Below.setCell ?_ ?_ _); rotate_left; (first | exact Nat.le_refl _ | omega | (simp <;> omega))) | ((with_reducible refine Below.alloc ?_ ?_ _); rotate_left; (first | omega | (simp <;> omega))))⟩
        · obtain ⟨hc, gc⟩ := inQ_t qc
          rw [if_pos (by simp [qa, qb, qc])]
          clear qa qb qc
          go_enter Try.func114, Try.ntmps114
          go_wp2_with fail
          refine (KG.out _).mono ?_; rintro e w1 ⟨rfl, hb1⟩
          have B1 := HB.out.trans (hb1.mono HB.out.size)
          have y0 : w1.cell? ⟨w.heap.size, 0, none⟩ = some (.int .i64 k) := ((bcell hb1).1 w.heap.size 0 (by simp)).trans (by go_simp)
          have y1 : w1.cell? ⟨w.heap.size, 1, none⟩ = some (.int .i64 a) := ((bcell hb1).1 w.heap.size 1 (by simp)).trans (by go_simp)
          have y2 : w1.cell? ⟨w.heap.size, 2, none⟩ = some (.int .i64 b) := ((bcell hb1).1 w.heap.size 2 (by simp)).trans (by go_simp)
          have y3 : w1.cell? ⟨w.heap.size, 3, none⟩ = some (.int .i64 c) := ((bcell hb1).1 w.heap.size 3 (by simp)).trans (by go_simp)
          have z1 : w.heap.size < w1.heap.size := by have := hb1.size; simp at this; omega
          clear hb1
          go_wp2_with fail
          go_end0
          exact ⟨rfl, by repeat (first | with_reducible assumption | with_reducible exact Below.refl _ _ | with_reducible apply Below.drew | ((with_reducible refine Below.setCell ?_ ?_ _); rotate_left; (first | exact Nat.le_refl _ | omega | (simp <;> omega))) | ((with_reducible refine Below.alloc ?_ ?_ _); rotate_left; (first | omega | (simp <;> omega))))⟩
  · have hf : kindB k = false := by simpa using hk
    have hm : mstE s k a b c = pnc k a b c := by unfold mstE; rw [hf]; rfl
    have hr : Hid (raiE s k a b c = pnc k a b c) := Lib.hid (by unfold raiE clueB; rw [hf]; rfl)
    rw [hm] at KG
    rw [hr.out]
    clear hk hf hm hr
    go_enter Try.func114, Try.ntmps114
    go_wp2_with fail
    refine (KG.out _).mono ?_; rintro e w1 ⟨rfl, hb1⟩
    have B1 := HB.out.trans (hb1.mono HB.out.size)
    unfold pnc
    go_wp2_with fail
    exact ⟨rfl, rfl, B1⟩
end Go.Proofs.Ytacabmbajadbgaa
/- lists of numbers in memory that the call itself made -/
namespace Go.Proofs.Ytacabmbajadbgaa
open Go.ChangeShapes Go.WideShapes Go.ChangeAt Go.RowKit Go.Joins
set_option linter.unusedVariables false
set_option linter.unusedSimpArgs false
set_option maxRecDepth 4000
/-- the slice's cells from address A on hold the numbers f 0, .., f (n - 1), may be written, and lie from block lo on, below block B -/
def RwI (w : World) (lo B : Nat) (A : Option Addr) (n : Nat) (f : Nat → Int) : Prop :=
  0 < n → ∃ b off, A = some ⟨b, off, none⟩ ∧ lo ≤ b ∧ b < B ∧ ∀ i, i < n → w.cell? ⟨b, off + i, none⟩ = some (.int .i64 (f i)) ∧ w.frozen? ⟨b, off + i, none⟩ = false
theorem rwi_block {w w' : World} {lo B : Nat} {A : Option Addr} {n : Nat} {f : Nat → Int} (h : RwI w lo B A n f) (hk : ∀ k, lo ≤ k → k < B → w'.heap[k]? = w.heap[k]?) : RwI w' lo B A n f := by
  intro hn
  obtain ⟨b, off, e, hb1, hb2, hc⟩ := h hn
  have c : ∀ o, w'.cell? ⟨b, o, none⟩ = w.cell? ⟨b, o, none⟩ := fun o => World.cell?_of_block (hk b hb1 hb2)
  have z : ∀ o, w'.frozen? ⟨b, o, none⟩ = w.frozen? ⟨b, o, none⟩ := fun o => World.frozen?_of_block (hk b hb1 hb2)
  exact ⟨b, off, e, hb1, hb2, fun i hi => by rw [c, z]; exact hc i hi⟩
theorem rwi_below {w w' : World} {lo B B' : Nat} {A : Option Addr} {n : Nat} {f : Nat → Int} (h : RwI w lo B A n f) (hb : Below B' w w') (hB : B ≤ B') : RwI w' lo B A n f :=
  rwi_block h fun k _ h2 => hb.block k (by omega)
theorem rwi_only {w w' : World} {lo B lo' B' : Nat} {A : Option Addr} {n : Nat} {f : Nat → Int} (h : RwI w lo B A n f) (ho : Only lo' B' w w') (hd : B ≤ lo' ∨ B' ≤ lo) : RwI w' lo B A n f :=
  rwi_block h fun k h1 h2 => ho.block k (by omega)
theorem rwi_more {w : World} {lo B lo' B' : Nat} {A : Option Addr} {n : Nat} {f : Nat → Int} (h : RwI w lo B A n f) (h1 : lo' ≤ lo) (h2 : B ≤ B') : RwI w lo' B' A n f := by
  intro hn
  obtain ⟨b, off, e, hb1, hb2, hc⟩ := h hn
  exact ⟨b, off, e, by omega, by omega, hc⟩
theorem rwi_same {w : World} {lo B : Nat} {A : Option Addr} {n : Nat} {f g : Nat → Int} (h : RwI w lo B A n f) (he : ∀ i, i < n → f i = g i) : RwI w lo B A n g := by
  intro hn
  obtain ⟨b, off, e, hb1, hb2, hc⟩ := h hn
  exact ⟨b, off, e, hb1, hb2, fun i hi => by rw [← he i hi]; exact hc i hi⟩
theorem rwi_store {w : World} {lo B b off n k : Nat} {f : Nat → Int} (h : RwI w lo B (some ⟨b, off, none⟩) n f) (hk : k < n) (x : Int) :
    RwI (w.setCell ⟨b, off + k, none⟩ (.int .i64 x)) lo B (some ⟨b, off, none⟩) n (fun j => if j = k then x else f j) := by
  intro hn
  obtain ⟨b', off', e, hb1, hb2, hc⟩ := h hn
  injection e with e
  injection e with e1 e2
  subst e1 e2
  refine ⟨b, off, rfl, hb1, hb2, fun i hi => ?_⟩
  obtain ⟨c1, z1⟩ := hc i hi
  refine ⟨?_, by rw [World.frozen?_setCell]; exact z1⟩
  by_cases hik : i = k
  · subst hik
    simp only [if_true]
    exact World.cell?_setCell_same w _ _ c1
  · simp only [hik, if_false]
    rw [World.cell?_setCell_other w _ _ _ (fun e => by injection e with e1 e2; omega)]
    exact c1
def mixI (k : Int) (i : Nat) (f : Nat → Int) (j : Nat) : Int := if j < i then k + (j : Int) else f j
theorem mixI_step (k : Int) (i : Nat) (f : Nat → Int) : (fun j => if j = i then k + (i : Int) else mixI k i f j) = mixI k (i + 1) f := by
  funext j
  unfold mixI
  by_cases h : j = i
  · subst h; rw [if_pos rfl, if_pos (by omega)]
  · rw [if_neg h]
    by_cases h2 : j < i
    · rw [if_pos h2, if_pos (by omega)]
    · rw [if_neg h2, if_neg (by omega)]
structure MarkedI (w w' : World) (lo B : Nat) (A : Option Addr) (n : Nat) (k : Int) (i : Nat) (f : Nat → Int) : Prop where
  only : Only lo B w w'
  row : RwI w' lo B A n (mixI k i f)
theorem markedI_step {w w' : World} {lo B b off n i : Nat} {k : Int} {f : Nat → Int} (h : MarkedI w w' lo B (some ⟨b, off, none⟩) n k i f) (hi : i < n) (hb : lo ≤ b) (hB : b < B) :
    MarkedI w (w'.setCell ⟨b, off + i, none⟩ (.int .i64 (k + (i : Int)))) lo B (some ⟨b, off, none⟩) n k (i + 1) f :=
  ⟨h.only.set hb hB _, by
    have := rwi_store h.row hi (k + (i : Int))
    rw [mixI_step k i f] at this
    exact this⟩
set_option maxHeartbeats 1000000 in
theorem markIntS_any (A : Option Addr) (c n : Nat) (k : Int) (lo B : Nat) (f : Nat → Int) (w : World) (hn : n ≤ 1048576) (hk1 : 1 ≤ k) (hk2 : k ≤ 1000000000) (hR : RwI w lo B A n f) :
    Calls Try.prog 28 #[.slice A n c, .int .i64 k] w fun e w' => e = .returned (.int .i64 (k + (n : Int))) ∧ Only lo B w w' ∧ RwI w' lo B A n (fun i => k + (i : Int)) := by
  have HM := Lib.hid (show MarkedI w w lo B A n k 0 f from ⟨Only.refl _ _ _, rwi_same hR fun i hi => by unfold mixI; rw [if_neg (by omega)]⟩)
  clear hR
  go_enter Try.func28, Try.ntmps28
  go_wp2_with fail
  go_loopg [1, 5] n (fun g u i wr => ∃ j : Nat, j ≤ n ∧ g = n - j ∧ i = .int .i64 j ∧ u = .int .i64 (k + (j : Int)) ∧ Hid (MarkedI w wr lo B A n k j f))
  case atStart => exact ⟨0, Nat.zero_le _, rfl, rfl, by simp, HM⟩
  case round =>
    obtain ⟨j, hj, hg, rfl, rfl, hM⟩ := hrel
    rename World => wo
    have HGK := Lib.hid hg
    clear hg HM
    by_cases hlt : j < n
    · obtain ⟨b, off, hA, hb1, hb2, hc⟩ := hM.out.row (by omega)
      subst hA
      obtain ⟨c1, z1⟩ := hc j hlt
      have M2 := Lib.hid (markedI_step hM.out hlt hb1 hb2)
      clear hc hM
      go_wp2_with fail
      go_roundg (n - (j + 1))
      case measure => have := HGK.out; omega
      case rel => exact ⟨j + 1, by omega, rfl, by go_num, by go_num, M2⟩
    · have hjn : n = j := by omega
      subst hjn
      go_wp2_with fail
      go_ret
      exact ⟨rfl, hM.out.only, rwi_same hM.out.row fun i hi => by unfold mixI; rw [if_pos hi]⟩
set_option maxHeartbeats 1000000 in
theorem heldIntS_any (A : Option Addr) (c n : Nat) (k : Int) (lo B : Nat) (w : World) (hn : n ≤ 1048576) (hk1 : 1 ≤ k) (hk2 : k ≤ 1000000000) (hR : RwI w lo B A n (fun i => k + (i : Int))) :
    Calls Try.prog 29 #[.slice A n c, .int .i64 k] w fun e w' => e = .returned (.int .i64 (k + (n : Int))) ∧ w = w' := by
  have HR := Lib.hid hR
  clear hR
  go_enter Try.func29, Try.ntmps29
  go_wp2_with fail
  go_loopg [1, 5] n (fun g u i wr => ∃ j : Nat, j ≤ n ∧ g = n - j ∧ i = .int .i64 j ∧ u = .int .i64 (k + (j : Int)) ∧ w = wr)
  case atStart => exact ⟨0, Nat.zero_le _, rfl, rfl, by simp, rfl⟩
  case round =>
    obtain ⟨j, hj, hg, rfl, rfl, rfl⟩ := hrel
    have HGK := Lib.hid hg
    clear hg
    by_cases hlt : j < n
    · obtain ⟨b, off, hA, hb1, hb2, hc⟩ := HR.out (by omega)
      subst hA
      obtain ⟨c1, z1⟩ := hc j hlt
      clear hc
      go_wp2_with fail
      go_roundg (n - (j + 1))
      case measure => have := HGK.out; omega
      case rel => exact ⟨j + 1, by omega, rfl, by go_num, by go_num, rfl⟩
    · have hjn : n = j := by omega
      subst hjn
      go_wp2_with fail
      go_ret
      exact ⟨rfl, rfl⟩
theorem bw_keep {w W W' : World} (h : Below w.heap.size w W) (hb : Below W.heap.size W W') : Below w.heap.size w W' := h.trans (hb.mono h.size)
set_option maxHeartbeats 1000000 in
theorem eqIntS_same (A A' : Option Addr) (c c' n : Nat) (lo B lo' B' : Nat) (f : Nat → Int) (w : World) (hn : n ≤ 1048576) (hR : RwI w lo B A n f) (hB : B ≤ w.heap.size) (hR' : RwI w lo' B' A' n f) (hB' : B' ≤ w.heap.size) :
    Calls Try.prog 27 #[.slice A n c, .slice A' n c'] w fun e w' => e = .returned (.bool true) ∧ Below w.heap.size w w' := by
  have HR := Lib.hid hR
  have HR' := Lib.hid hR'
  clear hR hR'
  go_enter Try.func27, Try.ntmps27
  go_wp2_with fail
  go_loopg [5] n (fun g i wr => ∃ j : Nat, j ≤ n ∧ g = n - j ∧ i = .int .i64 j ∧ Below w.heap.size w wr)
  case atStart => exact ⟨0, Nat.zero_le _, rfl, rfl, Below.refl _ _⟩
  case round =>
    obtain ⟨j, hj, hg, rfl, hBl⟩ := hrel
    rename World => wo
    have HGK := Lib.hid hg
    clear hg
    by_cases hlt : j < n
    · obtain ⟨b, off, hA, hb1, hb2, hc⟩ := HR.out (by omega)
      obtain ⟨b', off', hA', hb1', hb2', hc'⟩ := HR'.out (by omega)
      subst hA hA'
      obtain ⟨c1, z1⟩ := hc j hlt
      obtain ⟨c2, z2⟩ := hc' j hlt
      have e1 : wo.cell? ⟨b, off + j, none⟩ = some (.int .i64 (f j)) := (hBl.cell (p := ⟨b, off + j, none⟩) (by show b < w.heap.size; omega)).trans c1
      have e2 : wo.cell? ⟨b', off' + j, none⟩ = some (.int .i64 (f j)) := (hBl.cell (p := ⟨b', off' + j, none⟩) (by show b' < w.heap.size; omega)).trans c2
      have z3 : b < wo.heap.size := by have := hBl.size; omega
      have z4 : b' < wo.heap.size := by have := hBl.size; omega
      clear hc hc' c1 z1 c2 z2
      generalize f j = x at *
      go_wp2_with fail
      refine wp_region_B (fun W => Below wo.heap.size wo W) (by kernel_rfl) (Below.refl _ _).drew ?_
      first | refine wpB_skip 0 rfl (by kernel_rfl) (by kernel_rfl) (by kernel_rfl) (by rfl) ?_ | (refine wpB_text 0 (v := ?_) rfl (by kernel_rfl) (by kernel_rfl) (by kernel_rfl) (by rfl) (fun W hW => ?_) ?_; rotate_left; (have k1 := hW; obtain ⟨hc1, hf1⟩ := bcell k1; go_simp; refine comes_v ?_; exact k1))
      (try simp only [Act.put, List.setIfInBounds_toArray, List.set_cons_zero, List.set_cons_succ])
      first | refine wpB_skip 1 rfl (by kernel_rfl) (by kernel_rfl) (by kernel_rfl) (by rfl) ?_ | (refine wpB_text 1 (v := ?_) rfl (by kernel_rfl) (by kernel_rfl) (by kernel_rfl) (by rfl) (fun W hW => ?_) ?_; rotate_left; (have k1 := hW; obtain ⟨hc1, hf1⟩ := bcell k1; go_simp; refine comes_v ?_; exact k1))
      (try simp only [Act.put, List.setIfInBounds_toArray, List.set_cons_zero, List.set_cons_succ])
      first | refine wpB_skip 2 rfl (by kernel_rfl) (by kernel_rfl) (by kernel_rfl) (by rfl) ?_ | (refine wpB_text 2 (v := ?_) rfl (by kernel_rfl) (by kernel_rfl) (by kernel_rfl) (by rfl) (fun W hW => ?_) ?_; rotate_left; (have k1 := hW; obtain ⟨hc1, hf1⟩ := bcell k1; go_simp; refine comes_v ?_; exact k1))
      (try simp only [Act.put, List.setIfInBounds_toArray, List.set_cons_zero, List.set_cons_succ])
      first | refine wpB_skip 3 rfl (by kernel_rfl) (by kernel_rfl) (by kernel_rfl) (by rfl) ?_ | (refine wpB_text 3 (v := ?_) rfl (by kernel_rfl) (by kernel_rfl) (by kernel_rfl) (by rfl) (fun W hW => ?_) ?_; rotate_left; (have k1 := hW; obtain ⟨hc1, hf1⟩ := bcell k1; go_simp; refine comes_v ?_; exact k1))
      (try simp only [Act.put, List.setIfInBounds_toArray, List.set_cons_zero, List.set_cons_succ])
      first | refine wpB_skip 4 rfl (by kernel_rfl) (by kernel_rfl) (by kernel_rfl) (by rfl) ?_ | (refine wpB_text 4 (v := ?_) rfl (by kernel_rfl) (by kernel_rfl) (by kernel_rfl) (by rfl) (fun W hW => ?_) ?_; rotate_left; (have k1 := hW; obtain ⟨hc1, hf1⟩ := bcell k1; go_simp; refine comes_v ?_; exact k1))
      (try simp only [Act.put, List.setIfInBounds_toArray, List.set_cons_zero, List.set_cons_succ])
      first | refine wpB_skip 5 rfl (by kernel_rfl) (by kernel_rfl) (by kernel_rfl) (by rfl) ?_ | (refine wpB_text 5 (v := ?_) rfl (by kernel_rfl) (by kernel_rfl) (by kernel_rfl) (by rfl) (fun W hW => ?_) ?_; rotate_left; (have k1 := hW; obtain ⟨hc1, hf1⟩ := bcell k1; go_simp; refine comes_v ?_; exact k1))
      (try simp only [Act.put, List.setIfInBounds_toArray, List.set_cons_zero, List.set_cons_succ])
      first | refine wpB_skip 6 rfl (by kernel_rfl) (by kernel_rfl) (by kernel_rfl) (by rfl) ?_ | (refine wpB_text 6 (v := ?_) rfl (by kernel_rfl) (by kernel_rfl) (by kernel_rfl) (by rfl) (fun W hW => ?_) ?_; rotate_left; (have k1 := hW; obtain ⟨hc1, hf1⟩ := bcell k1; go_simp; refine comes_v ?_; exact k1))
      (try simp only [Act.put, List.setIfInBounds_toArray, List.set_cons_zero, List.set_cons_succ])
      first | refine wpB_skip 7 rfl (by kernel_rfl) (by kernel_rfl) (by kernel_rfl) (by rfl) ?_ | (refine wpB_text 7 (v := ?_) rfl (by kernel_rfl) (by kernel_rfl) (by kernel_rfl) (by rfl) (fun W hW => ?_) ?_; rotate_left; (have k1 := hW; obtain ⟨hc1, hf1⟩ := bcell k1; go_simp; refine comes_v ?_; exact k1))
      (try simp only [Act.put, List.setIfInBounds_toArray, List.set_cons_zero, List.set_cons_succ])
      first | refine wpB_skip 8 rfl (by kernel_rfl) (by kernel_rfl) (by kernel_rfl) (by rfl) ?_ | (refine wpB_text 8 (v := ?_) rfl (by kernel_rfl) (by kernel_rfl) (by kernel_rfl) (by rfl) (fun W hW => ?_) ?_; rotate_left; (have k1 := hW; obtain ⟨hc1, hf1⟩ := bcell k1; go_simp; refine comes_v ?_; exact k1))
      (try simp only [Act.put, List.setIfInBounds_toArray, List.set_cons_zero, List.set_cons_succ])
      refine wpB_done (by kernel_rfl) ?_ _
      intro W hW; have k1 := hW
      have B2 := hBl.trans (k1.mono hBl.size)
      go_wp2_with fail
      go_roundg (n - (j + 1))
      case measure => have := HGK.out; omega
      case rel => exact ⟨j + 1, by omega, rfl, by go_num, B2⟩
    · have hjn : n = j := by omega
      subst hjn
      go_wp2_with fail
      go_ret
      exact ⟨rfl, hBl⟩
/-- a call that gives p numbers F and says whether there are such -/
def RetNI (w : World) (p : Nat) (F : Nat → Int) (b : Bool) (e : Ending) (w' : World) : Prop :=
  ∃ A c, e = .returned (.tuple #[.slice A p c, .bool b]) ∧ Below w.heap.size w w' ∧ RwI w' w.heap.size w'.heap.size A p F
theorem retNI_nil {w w' : World} {F : Nat → Int} (hb : Below w.heap.size w w') : RetNI w 0 F false (.returned (.tuple #[.slice none 0 0, .bool false])) w' :=
  ⟨none, 0, rfl, hb, fun h => absurd h (by omega)⟩
/-- three numbers in a new block -/
theorem rwi_three {w : World} {g : Nat} {x y z : Int} (hg : g < w.heap.size) (h0 : w.cell? ⟨g, 0, none⟩ = some (.int .i64 x)) (h1 : w.cell? ⟨g, 1, none⟩ = some (.int .i64 y)) (h2 : w.cell? ⟨g, 2, none⟩ = some (.int .i64 z)) (hf : ∀ o, w.frozen? ⟨g, o, none⟩ = false) :
    RwI w g w.heap.size (some ⟨g, 0, none⟩) 3 (fun i => if i = 0 then x else if i = 1 then y else z) := by
  intro _
  refine ⟨g, 0, rfl, Nat.le_refl _, hg, fun i hi => ⟨?_, hf _⟩⟩
  rw [Nat.zero_add]
  match i, hi with
  | 0, _ => exact h0
  | 1, _ => exact h1
  | 2, _ => exact h2
end Go.Proofs.Ytacabmbajadbgaa
/- lists of numbers that come in: copied, opened, looked at -/
namespace Go.Proofs.Ytacabmbajadbgaa
open Go.ChangeShapes Go.WideShapes Go.ChangeAt Go.RowKit Go.Joins
set_option linter.unusedVariables false
set_option linter.unusedSimpArgs false
set_option maxRecDepth 4000
open Go.Deep
theorem rdi_of_rw {w : World} {lo B : Nat} {A : Option Addr} {n : Nat} {f : Nat → Int} (h : RwI w lo B A n f) (hB : B ≤ w.heap.size) : RdI w w.heap.size A n f := fun hn => by
  obtain ⟨b, off, e, h1, h2, h3⟩ := h hn
  exact ⟨b, off, e, by omega, fun i hi => (h3 i hi).1⟩
theorem int_info : (Try.prog.info? 3).map (fun i => (i.zero, i.size, i.bytes)) = some (some (.int .i64 0), 1, 8) := by kernel_rfl
/-- a new block of numbers: number g, the first k of them set -/
def SetI (w : World) (g n k : Nat) (f : Nat → Int) : Prop :=
  g < w.heap.size ∧ (∀ i, i < n → (∃ u, w.cell? ⟨g, i, none⟩ = some u) ∧ w.frozen? ⟨g, i, none⟩ = false) ∧ ∀ i, i < k → w.cell? ⟨g, i, none⟩ = some (.int .i64 (f i))
theorem seti_new (w : World) (t : TypeId) (n : Nat) (f : Nat → Int) : SetI (w.alloc (.cells (madeCells #[.int .i64 0] (n * 1)) t)) w.heap.size n 0 f := by
  refine ⟨by simp, fun i hi => ?_, fun i h => absurd h (Nat.not_lt_zero _)⟩
  have hs := size_madeCells #[.int .i64 0] (n * 1)
  exact ⟨⟨_, by rw [cell_of_row (w.alloc _) w.heap.size i _ t (0, 0) (heap_alloc_new w _)]; exact Array.getElem?_eq_getElem (by omega)⟩, by rw [frozen?_alloc_cells]; simp [World.frozen?]⟩
theorem seti_store {w : World} {g n k : Nat} {f : Nat → Int} (h : SetI w g n k f) (hk : k < n) : SetI (w.setCell ⟨g, k, none⟩ (.int .i64 (f k))) g n (k + 1) f := by
  obtain ⟨h1, h2, h3⟩ := h
  refine ⟨by simpa [World.setCell] using h1, fun i hi => ?_, fun i hi => ?_⟩
  · obtain ⟨⟨u, e⟩, z⟩ := h2 i hi
    exact ⟨cell?_setCell_some e, by rw [World.frozen?_setCell]; exact z⟩
  · by_cases hik : i = k
    · subst hik
      obtain ⟨⟨u, e⟩, _⟩ := h2 i hk
      exact World.cell?_setCell_same w _ _ e
    · rw [World.cell?_setCell_other w _ _ _ (fun e => hik (by injection e with e1 e2; exact e2.symm))]
      exact h3 i (by omega)
theorem rwi_of_seti {w : World} {lo g n : Nat} {f : Nat → Int} (h : SetI w g n n f) (hl : lo ≤ g) : RwI w lo w.heap.size (some ⟨g, 0, none⟩) n f := fun _ => by
  obtain ⟨h1, h2, h3⟩ := h
  exact ⟨g, 0, rfl, hl, h1, fun i hi => by rw [Nat.zero_add]; exact ⟨h3 i hi, (h2 i hi).2⟩⟩
set_option maxHeartbeats 1000000 in
theorem toIntS_any (A : Option Addr) (c n : Nat) (f : Nat → Int) (w : World) (hn : n ≤ 1048576) (hR : RdI w w.heap.size A n f) :
    Calls Try.prog 40 #[.slice A n c] w fun e w' => e = .returned (.slice (some ⟨w.heap.size, 0, none⟩) n n) ∧ Below w.heap.size w w' ∧ RwI w' w.heap.size w'.heap.size (some ⟨w.heap.size, 0, none⟩) n f := by
  obtain ⟨i0, hi0, hz0, hz1, hz2⟩ := info_parts int_info
  have hmk := fun W => run_make (P := Try.prog) W 41 3 i0 _ Try.underlying41 hi0 hz0 .i64 .i64 (n : Int) (n : Int) (by omega) (by omega) (by rw [hz2]; omega) (by omega)
  have HR := Lib.hid hR
  clear hR
  go_enter Try.func40, Try.ntmps40
  go_wp2_with fail
  have hS0 := Lib.hid (seti_new w 3 n f)
  have hB0 : Below w.heap.size w (w.alloc (.cells (madeCells #[.int .i64 0] (n * 1)) 3)) := (Below.refl _ _).alloc (Nat.le_refl _) _
  clear hmk
  simp only [Nat.mul_one] at hS0 hB0
  go_loopg [4] n (fun g i wr => ∃ k : Nat, k ≤ n ∧ g = n - k ∧ i = .int .i64 k ∧ Below w.heap.size w wr ∧ Hid (SetI wr w.heap.size n k f))
  case atStart => exact ⟨0, Nat.zero_le _, rfl, rfl, hB0, hS0⟩
  case round =>
    clear hB0 hS0
    obtain ⟨k, hk, hg, rfl, hB, hS⟩ := hrel
    rename World => wo
    have HGK := Lib.hid hg
    clear hg
    by_cases hlt : k < n
    · obtain ⟨b, off, rfl, hb, hcell⟩ := HR.out (by omega)
      have hq : wo.cell? ⟨b, off + k, none⟩ = some (.int .i64 (f k)) := (hB.cell (p := ⟨b, off + k, none⟩) hb).trans (hcell k hlt)
      have S1 := hS.out
      obtain ⟨g1, g2, g3⟩ := S1
      obtain ⟨⟨u1, d1⟩, d3⟩ := g2 k hlt
      have S2 := Lib.hid (seti_store hS.out hlt)
      have B2 := Lib.hid (hB.setCell (p := ⟨w.heap.size, k, none⟩) (Nat.le_refl _) (.int .i64 (f k)))
      clear g2 g3 hS hcell
      go_wp2_with fail
      go_roundg (n - (k + 1))
      case measure => have := HGK.out; omega
      case rel => exact ⟨k + 1, by omega, rfl, by go_num, B2.out, S2⟩
    · have hkn : n = k := by omega
      subst hkn
      go_wp2_with fail
      go_ret
      exact ⟨rfl, hB, rwi_of_seti hS.out (Nat.le_refl _)⟩
section
variable {H : Type} {enc : TypeId × Value → H}
/-- an argument that is a list of numbers -/
theorem open_numbers {w : World} {r : Reach} {b0 base : Nat} {spare : Nat → Bool} {v : Value} {d : DataW H} {p : List MemPlace} (hv : Value.okWide Try.prog w r b0 41 v)
    (h : DataW.Trod enc Try.prog w base spare true 41 v d p) : ∃ (A : Option Addr) (c n : Nat) (f : Nat → Int), v = .slice A n c ∧ n ≤ c ∧ c ≤ maxLen ∧ RdI w w.heap.size A n f := by
  obtain ⟨a0, len, cap, rfl⟩ := okWide_slice Try.underlying41 hv
  obtain ⟨fuel, hf⟩ := h
  rcases open_ints Try.underlying41 Try.underlying3 (by kernel_rfl) hf with ⟨hcs, _⟩ | ⟨a, len', cap', zs, hcs, _, hl, hm, hzl, _, hi, _⟩
  · simp [Value.cells] at hcs
    obtain ⟨rfl, rfl, rfl⟩ := hcs
    exact ⟨none, 0, 0, fun _ => 0, rfl, by simp, by simp, fun h => absurd h (by simp)⟩
  · simp [Value.cells] at hcs
    obtain ⟨rfl, rfl, rfl⟩ := hcs
    have hml : len ≤ zs.length := by rw [hzl]; split <;> omega
    refine ⟨some a, cap, len, fun i => zs.getD i 0, rfl, hl, hm, fun hpos => ?_⟩
    have k0 := hi 0 (by omega)
    obtain ⟨b, off, spot⟩ := a
    have hspot : spot = none := by simpa [Addr.add] using World.cell?_spot k0
    subst hspot
    refine ⟨b, off, rfl, ?_, fun i hq => ?_⟩
    · have := lt_of_cell k0
      rw [add_plain] at this
      exact this
    · have := hi i (by omega)
      rw [add_plain] at this
      exact this
end
end Go.Proofs.Ytacabmbajadbgaa
/- A statement that leaves the order of its first operations open, all of which come to one value in every world that meets S and lead to such a world again; the last ones stand in one order: one walk, in the order of the text. -/
namespace Go.Proofs.Ytacabmbajadbgaa
open Go.ChangeShapes Go.WideShapes Go.ChangeAt Go.RowKit Go.Joins
set_option linter.unusedVariables false
set_option linter.unusedSimpArgs false
set_option maxRecDepth 4000
section
variable {P : Program} {ops : Array Oper} {md : Region.Mode} {S : World → Prop}
def wpAnyS (P : Program) (md : Region.Mode) (ops : Array Oper) (S : World → Prop) (n : Nat) (L : Array Bool → Act → Prop) : Nat → Array Bool → Act → Prop
  | 0, listed, a => L listed a
  | f + 1, listed, a => Region.ready md ops listed ≠ [] ∧ ∀ i ∈ Region.ready md ops listed, i < n ∧ ∃ oi v, ops[i]? = some oi ∧ Steady P ops S oi v a ∧ wpAnyS P md ops S n L f (listed.setIfInBounds i true) (a.put oi.dst v)
theorem wpAny_of_S {n g : Nat} {L : Array Bool → Act → Prop} {Q : Exit → Act → World → Prop} (hL : ∀ listed a, L listed a → ∀ w, S w → wpAny P md ops Q g listed a w) :
    ∀ (f : Nat) (listed : Array Bool) (a : Act), wpAnyS P md ops S n L f listed a → ∀ w, S w → wpAny P md ops Q (f + g) listed a w
  | 0, listed, a, h, w, hS => by rw [Nat.zero_add]; exact hL _ _ h w hS
  | f + 1, listed, a, h, w, hS => by
    rw [show f + 1 + g = (f + g) + 1 by omega]
    exact ⟨fun h0 => absurd h0 h.1, fun i hi => by
      obtain ⟨_, oi, v, ho, hy, hn⟩ := h.2 i hi
      exact steady_op ho hy hS fun w' hS' => wpAny_of_S hL f _ _ hn w' hS'⟩
theorem wpAnyS_first {n i : Nat} {oi : Oper} {v : Value} {L : Array Bool → Act → Prop} (hi : ops[i]? = some oi) (hsel : ∀ (j : Nat) (o : Oper) cs b, ops[j]? = some o → o.op ≠ .select cs b)
    (hs : Region.sinkB md ops n = true) (hc : Region.chainB md ops n = true) (hn : n < ops.size) (hin : i < n)
    (hdone : ∀ listed a, L listed a → ∀ j ∈ Region.ready md ops listed, n ≤ j) :
    ∀ (f : Nat) (listed : Array Bool) (a : Act), HeadInv md ops n listed →
      (∀ j oj, ops[j]? = some oj → j ≠ i → listed.getD j true = false → (∀ e ∈ oj.after, Region.binds md e = true → e.on ≠ i) → oi.apart ops oj = true) →
      i ∈ Region.ready md ops listed → Steady P ops S oi v a →
      wpAnyS P md ops S n L f (listed.setIfInBounds i true) (a.put oi.dst v) → wpAnyS P md ops S n L (f + 1) listed a := by
  intro f
  induction f with
  | zero =>
    intro listed a inv _ hr hy H
    have hun := (mem_ready.1 hr).1
    refine ⟨fun h => (by rw [h] at hr; cases hr), fun j hj => ?_⟩
    have hjn : j < n := by
      rcases Nat.lt_or_ge j n with h | h
      · exact h
      · exact absurd hj (tail_waits hs hc hn inv _ i rfl hin hun j h)
    refine ⟨hjn, ?_⟩
    by_cases hji : j = i
    · subst hji; exact ⟨oi, v, hi, hy, H⟩
    · have := hdone _ _ H j (ready_mono hj hji)
      omega
  | succ f ih =>
    intro listed a inv hfree hr hy H
    have hun := (mem_ready.1 hr).1
    refine ⟨fun h => (by rw [h] at hr; cases hr), fun j hj => ?_⟩
    have hjn : j < n := by
      rcases Nat.lt_or_ge j n with h | h
      · exact h
      · exact absurd hj (tail_waits hs hc hn inv _ i rfl hin hun j h)
    refine ⟨hjn, ?_⟩
    by_cases hji : j = i
    · subst hji; exact ⟨oi, v, hi, hy, H⟩
    · obtain ⟨_, oj, u, hoj, hsj, Hj⟩ := H.2 j (ready_mono hj hji)
      obtain ⟨hjun, oj', hoj', hall⟩ := mem_ready.1 hj
      obtain rfl : oj' = oj := Option.some.inj (hoj'.symm.trans hoj)
      have hnot : ∀ e ∈ oj'.after, Region.binds md e = true → e.on ≠ i := fun e he hb heq => by
        have h1 := hall e he hb
        rw [heq, getD_both hun] at h1
        cases h1
      obtain ⟨h1, h2, h3⟩ := Oper.apart_spec (hfree j oj' hoj hji hjun hnot)
      have k1 : Steady P ops S oj' u a := steady_same hsj (execOp_put oj' (fun cs b => hsel j oj' cs b hoj) a oi.dst v h1).symm (wanted_put oj' a oi.dst v h1).symm
      have k2 : Steady P ops S oi v (a.put oj'.dst u) := steady_same hy (execOp_put oi (fun cs b => hsel i oi cs b hi) a oj'.dst u h3) (wanted_put oi a oj'.dst u h3)
      refine ⟨oj', u, hoj, k1, ih _ _ (inv.set hj hjn) (fun k ok hk hki hun hno => ?_) (ready_mono hr (Ne.symm hji)) k2 ?_⟩
      · refine hfree k ok hk hki ?_ hno
        by_cases hjk : j = k
        · subst hjk; exact hjun
        · rw [getD_set_ne true hjk] at hun; exact hun
      · rw [Array.setIfInBounds_comm _ _ hji, ← Act.put_comm a v u h2]
        exact Hj
/-- the head, in the text's order -/
def wpH (P : Program) (ops : Array Oper) (S : World → Prop) (T : Act → Prop) : List Oper → Act → Prop
  | [], a => T a
  | o :: rest, a => ∃ v, Steady P ops S o v a ∧ wpH P ops S T rest (a.put o.dst v)
theorem wpAnyS_lex {n g : Nat} {T : Act → Prop} (hsel : Region.noSelect ops = true) (hs : Region.sinkB md ops n = true) (hc : Region.chainB md ops n = true) (hn : n < ops.size) :
    ∀ (l : List Oper) (k : Nat) (listed : Array Bool) (a : Act), (∀ j, j < l.length → l[j]? = ops[k + j]?) → k + l.length = n → HeadInv md ops n listed →
    Region.lexHead md ops g l.length k listed = true → wpH P ops S T l a →
    wpAnyS P md ops S n (fun listed' a' => Region.seqB md ops g n listed' = true ∧ T a') l.length listed a
  | [], k, listed, a, _, hk, _, hB, h => by
    have : k = n := by simpa using hk
    subst this
    exact ⟨by simpa [Region.lexHead] using hB, h⟩
  | o :: l, k, listed, a, hl, hk, inv, hB, h => by
    have h0 : ops[k]? = some o := by simpa using (hl 0 (by simp)).symm
    simp only [List.length_cons, Region.lexHead, Bool.and_eq_true] at hB
    obtain ⟨⟨hr, hf⟩, hB'⟩ := hB
    have hkn : k < n := by simp only [List.length_cons] at hk; omega
    have hr' : k ∈ Region.ready md ops listed := by simpa using hr
    obtain ⟨v, hy, hK⟩ := h
    exact wpAnyS_first h0 (Region.noSelect_spec hsel) hs hc hn hkn (fun listed' a' hL => seqB_ready hL.1) l.length listed a inv (Region.free_spec h0 hf) hr' hy
      (wpAnyS_lex hsel hs hc hn l (k + 1) _ _ (fun j hj => by have := hl (j + 1) (by simp; omega); simpa [Nat.add_assoc, Nat.add_comm 1 j] using this) (by simp only [List.length_cons] at hk; omega) (inv.set hr' hkn) hB' hK)
theorem wp_region_BT {id : Nat} {Q : Exit → Act → World → Prop} {a : Act} {w : World} {l : List Oper} (n : Nat) (S : World → Prop) (hm : P.follows .mixedOrders = true) (hB : Region.lexTailB .any l.toArray n = true) (hS : S w.drew)
    (h : wpH P l.toArray S (fun a' => ∀ W, S W → wpList P l.toArray Q (l.drop n) a' W) (l.take n) a) : (Code.region id l.toArray true).wp P Q a w := by
  simp only [Region.lexTailB, Bool.and_eq_true, decide_eq_true_eq] at hB
  obtain ⟨⟨⟨⟨hsel, hn⟩, hs⟩, hc⟩, hlex⟩ := hB
  have hn' : n < l.length := by simpa using hn
  have htl : (l.take n).length = n := by simp; omega
  have hdl : (l.drop n).length = l.toArray.size - n := by simp
  have inv0 : HeadInv .any l.toArray n (Array.replicate l.toArray.size false) :=
    ⟨by simp, fun j oj _ hl => (by rw [getD_replicate_false] at hl; cases hl), fun t _ ht => getD_in (by simpa using ht) (getD_replicate_false _ _)⟩
  have H := wpAnyS_lex (md := .any) (g := l.toArray.size - n) hsel hs hc hn (l.take n) 0 _ a (fun j hj => by
    have hj' : j < n := by rw [htl] at hj; exact hj
    simp [hj']) (by simpa using htl) inv0 (by rw [htl]; exact hlex) h
  refine wp_region_any hm ?_
  have := wpAny_of_S (Q := Q) (g := l.toArray.size - n) (fun listed a' hL W hW => by
    have := wpAny_of_seq (md := .any) (Q' := Q) (l.drop n) n listed a' W (fun j => by simp [List.getElem?_drop]) (by rw [hdl]; exact hL.1) (hL.2 W hW)
    rwa [hdl] at this) _ _ _ H w.drew hS
  rw [htl, show n + (l.toArray.size - n) = l.toArray.size by omega] at this
  exact this
theorem wpH_text {T : Act → Prop} {o : Oper} {rest : List Oper} {a : Act} {v : Value} (hw : Region.wanted o (yielded ops a.tmps) = true) (hy : ∀ w, S w → Comes P S v ((execOp a.eval o).run P w))
    (h : wpH P ops S T rest (a.put o.dst v)) : wpH P ops S T (o :: rest) a := ⟨v, Or.inl ⟨hw, hy⟩, h⟩
theorem wpH_skip {T : Act → Prop} {o : Oper} {rest : List Oper} {a : Act} (hw : Region.wanted o (yielded ops a.tmps) = false)
    (h : wpH P ops S T rest (a.put o.dst undef)) : wpH P ops S T (o :: rest) a := ⟨undef, Or.inr ⟨hw, rfl⟩, h⟩
theorem wpH_nil {T : Act → Prop} {a : Act} (h : T a) : wpH P ops S T [] a := h
end
end Go.Proofs.Ytacabmbajadbgaa
/- clues in memory: four numbers each; laid anew, compared, marked, held -/
namespace Go.Proofs.Ytacabmbajadbgaa
open Go.ChangeShapes Go.WideShapes Go.ChangeAt Go.RowKit Go.Joins
set_option linter.unusedVariables false
set_option linter.unusedSimpArgs false
set_option maxRecDepth 4000
/-- clue i of a row of numbers -/
def cvF (f : Nat → Int) (i : Nat) : Value := .agg #[.int .i64 (f (i * 4)), .int .i64 (f (i * 4 + 1)), .int .i64 (f (i * 4 + 2)), .int .i64 (f (i * 4 + 3))]
theorem clue_info : (Try.prog.info? 38).map (fun i => (i.zero, i.size, i.bytes)) = some (some (.agg #[.int .i64 0, .int .i64 0, .int .i64 0, .int .i64 0]), 4, 32) := by kernel_rfl
theorem toClue_any (a b c d : Int) (w : World) :
    Calls Try.prog 23 #[.agg #[.int .i64 a, .int .i64 b, .int .i64 c, .int .i64 d]] w fun e w' => e = .returned (.agg #[.int .i64 a, .int .i64 b, .int .i64 c, .int .i64 d]) ∧ Below w.heap.size w w' := by
  go_enter Try.func23, Try.ntmps23
  go_wp2_with fail
  refine bodyPost_ret (v := .agg #[.int .i64 a, .int .i64 b, .int .i64 c, .int .i64 d]) (by simp [results, Try.results23, go_sem]) rfl ⟨rfl, ?_⟩
  repeat (first | with_reducible assumption | with_reducible exact Below.refl _ _ | with_reducible apply Below.drew | ((with_reducible refine Below.setCell ?_ ?_ _); rotate_left; (first | exact Nat.le_refl _ | omega | (simp <;> omega))) | ((with_reducible refine Below.alloc ?_ ?_ _); rotate_left; (first | omega | (simp <;> omega))))
theorem seti_new4 (w : World) (t : TypeId) (n : Nat) (f : Nat → Int) : SetI (w.alloc (.cells (madeCells #[.int .i64 0, .int .i64 0, .int .i64 0, .int .i64 0] (n * 4)) t)) w.heap.size (n * 4) 0 f := by
  refine ⟨by simp, fun i hi => ?_, fun i h => absurd h (Nat.not_lt_zero _)⟩
  have hs := size_madeCells #[.int .i64 0, .int .i64 0, .int .i64 0, .int .i64 0] (n * 4)
  exact ⟨⟨_, by rw [cell_of_row (w.alloc _) w.heap.size i _ t (0, 0) (heap_alloc_new w _)]; exact Array.getElem?_eq_getElem (by omega)⟩, by rw [frozen?_alloc_cells]; simp [World.frozen?]⟩
theorem seti_below {w w' : World} {g n k : Nat} {f : Nat → Int} (h : SetI w g n k f) (hb : Below w.heap.size w w') : SetI w' g n k f := by
  obtain ⟨h1, h2, h3⟩ := h
  have hc := (bcell hb).1
  have hf := (bcell hb).2
  have hz := hb.size
  exact ⟨by omega, fun i hi => by rw [hc _ _ h1, hf _ _ h1]; exact h2 i hi, fun i hi => by rw [hc _ _ h1]; exact h3 i hi⟩
theorem seti_store4 {w : World} {g n k : Nat} {f : Nat → Int} (h : SetI w g (n * 4) (k * 4) f) (hk : k < n) :
    SetI ((((w.setCell ⟨g, k * 4, none⟩ (.int .i64 (f (k * 4)))).setCell ⟨g, k * 4 + 1, none⟩ (.int .i64 (f (k * 4 + 1)))).setCell ⟨g, k * 4 + 2, none⟩ (.int .i64 (f (k * 4 + 2)))).setCell ⟨g, k * 4 + 3, none⟩ (.int .i64 (f (k * 4 + 3)))) g (n * 4) ((k + 1) * 4) f := by
  have := seti_store (seti_store (seti_store (seti_store h (by omega)) (by omega)) (by omega)) (by omega)
  rw [show (k + 1) * 4 = k * 4 + 1 + 1 + 1 + 1 by omega]
  exact this
/-- block g holds the numbers -/
structure Nib (w : World) (g n : Nat) (f : Nat → Int) : Prop where
  z : g < w.heap.size
  r : RwI w g (g + 1) (some ⟨g, 0, none⟩) n f
theorem nib_below {w w' : World} {g n : Nat} {f : Nat → Int} (h : Nib w g n f) (hb : Below w.heap.size w w') : Nib w' g n f := ⟨Nat.lt_of_lt_of_le h.z hb.size, rwi_below h.r hb h.z⟩
theorem nib_rd {w : World} {g n : Nat} {f : Nat → Int} (h : Nib w g n f) : RdI w w.heap.size (some ⟨g, 0, none⟩) n f := rdi_of_rw h.r h.z
theorem nib_of_seti {w : World} {g n : Nat} {f : Nat → Int} (h : SetI w g n n f) : Nib w g n f := ⟨h.1, fun hn => by
  obtain ⟨b, off, e, h1, h2, h3⟩ := rwi_of_seti h (Nat.le_refl g) hn
  injection e with e
  injection e with e1 e2
  subst e1
  exact ⟨g, off, by rw [← e2], h1, by omega, h3⟩⟩
set_option maxHeartbeats 1000000 in
theorem toClueS_any (A : Option Addr) (c n : Nat) (f : Nat → Int) (w : World) (hn : n ≤ 1048576) (hR : RdI w w.heap.size A (n * 4) f) :
    Calls Try.prog 57 #[.slice A n c] w fun e w' => e = .returned (.slice (some ⟨w.heap.size, 0, none⟩) n n) ∧ Below w.heap.size w w' ∧ Nib w' w.heap.size (n * 4) f := by
  obtain ⟨i0, hi0, hz0, hz1, hz2⟩ := info_parts clue_info
  have hmk := fun W => run_make (P := Try.prog) W 26 38 i0 _ Try.underlying26 hi0 hz0 .i64 .i64 (n : Int) (n : Int) (by omega) (by omega) (by rw [hz2]; omega) (by omega)
  have HR := Lib.hid hR
  clear hR
  go_enter Try.func57, Try.ntmps57
  go_wp2_with fail
  have hS0 := Lib.hid (seti_new4 w 38 n f)
  have hB0 : Below w.heap.size w (w.alloc (.cells (madeCells #[.int .i64 0, .int .i64 0, .int .i64 0, .int .i64 0] (n * 4)) 38)) := (Below.refl _ _).alloc (Nat.le_refl _) _
  clear hmk
  go_loopg [4] n (fun g i wr => ∃ k : Nat, k ≤ n ∧ g = n - k ∧ i = .int .i64 k ∧ Below w.heap.size w wr ∧ Hid (SetI wr w.heap.size (n * 4) (k * 4) f))
  case atStart => exact ⟨0, Nat.zero_le _, rfl, rfl, hB0, hS0⟩
  case round =>
    clear hB0 hS0
    obtain ⟨k, hk, hg, rfl, hB, hS⟩ := hrel
    rename World => wo
    have HGK := Lib.hid hg
    clear hg
    by_cases hlt : k < n
    · obtain ⟨b, off, rfl, hb, hcell⟩ := HR.out (by omega)
      have q0 : wo.cell? ⟨b, off + k * 4, none⟩ = some (.int .i64 (f (k * 4))) := (hB.cell (p := ⟨b, off + k * 4, none⟩) hb).trans (hcell (k * 4) (by omega))
      have q1 : wo.cell? ⟨b, off + k * 4 + 1, none⟩ = some (.int .i64 (f (k * 4 + 1))) := (hB.cell (p := ⟨b, off + k * 4 + 1, none⟩) hb).trans (hcell (k * 4 + 1) (by omega))
      have q2 : wo.cell? ⟨b, off + k * 4 + 2, none⟩ = some (.int .i64 (f (k * 4 + 2))) := (hB.cell (p := ⟨b, off + k * 4 + 2, none⟩) hb).trans (hcell (k * 4 + 2) (by omega))
      have q3 : wo.cell? ⟨b, off + k * 4 + 3, none⟩ = some (.int .i64 (f (k * 4 + 3))) := (hB.cell (p := ⟨b, off + k * 4 + 3, none⟩) hb).trans (hcell (k * 4 + 3) (by omega))
      clear hcell
      go_wp2_with fail
      refine (toClue_any _ _ _ _ _).mono ?_; rintro e w1 ⟨rfl, hb1⟩
      have S1 := seti_below hS.out hb1
      have B1 := hB.trans (hb1.mono hB.size)
      obtain ⟨g1, g2, g3⟩ := S1
      obtain ⟨⟨u0, d0⟩, z0⟩ := g2 (k * 4) (by omega)
      obtain ⟨⟨u1, d1⟩, z1⟩ := g2 (k * 4 + 1) (by omega)
      obtain ⟨⟨u2, d2⟩, z2⟩ := g2 (k * 4 + 2) (by omega)
      obtain ⟨⟨u3, d3⟩, z3⟩ := g2 (k * 4 + 3) (by omega)
      have S2 := Lib.hid (seti_store4 (seti_below hS.out hb1) hlt)
      have B2 := Lib.hid ((((B1.setCell (p := ⟨w.heap.size, k * 4, none⟩) (Nat.le_refl _) (.int .i64 (f (k * 4)))).setCell (p := ⟨w.heap.size, k * 4 + 1, none⟩) (Nat.le_refl _) (.int .i64 (f (k * 4 + 1)))).setCell (p := ⟨w.heap.size, k * 4 + 2, none⟩) (Nat.le_refl _) (.int .i64 (f (k * 4 + 2)))).setCell (p := ⟨w.heap.size, k * 4 + 3, none⟩) (Nat.le_refl _) (.int .i64 (f (k * 4 + 3))))
      clear g2 g3 hS hb1 q0 q1 q2 q3
      go_wp2_with fail
      go_roundg (n - (k + 1))
      case measure => have := HGK.out; omega
      case rel => exact ⟨k + 1, by omega, rfl, by go_num, B2.out, S2⟩
    · have hkn : n = k := by omega
      subst hkn
      go_wp2_with fail
      go_ret
      exact ⟨rfl, hB, nib_of_seti hS.out⟩
set_option maxHeartbeats 1000000 in
theorem markClueS_any (A : Option Addr) (c n : Nat) (k : Int) (lo B : Nat) (f : Nat → Int) (w : World) (hn : n ≤ 1048576) (hk1 : 1 ≤ k) (hk2 : k ≤ 1000000000) (hR : RwI w lo B A (n * 4) f) :
    Calls Try.prog 61 #[.slice A n c, .int .i64 k] w fun e w' => e = .returned (.int .i64 (k + 4 * (n : Int))) ∧ Only lo B w w' ∧ RwI w' lo B A (n * 4) (fun i => k + (i : Int)) := by
  have HM := Lib.hid (show MarkedI w w lo B A (n * 4) k 0 f from ⟨Only.refl _ _ _, rwi_same hR fun i hi => by unfold mixI; rw [if_neg (by omega)]⟩)
  clear hR
  go_enter Try.func61, Try.ntmps61
  go_wp2_with fail
  go_loopg [1, 5] n (fun g u i wr => ∃ j : Nat, j ≤ n ∧ g = n - j ∧ i = .int .i64 j ∧ u = .int .i64 (k + 4 * (j : Int)) ∧ Hid (MarkedI w wr lo B A (n * 4) k (j * 4) f))
  case atStart => exact ⟨0, Nat.zero_le _, rfl, rfl, by simp, HM⟩
  case round =>
    obtain ⟨j, hj, hg, rfl, rfl, hM⟩ := hrel
    rename World => wo
    have HGK := Lib.hid hg
    clear hg HM
    by_cases hlt : j < n
    · obtain ⟨b, off, hA, hb1, hb2, hc⟩ := hM.out.row (by omega)
      subst hA
      obtain ⟨c0, z0⟩ := hc (j * 4) (by omega)
      have p1 := hc (j * 4 + 1) (by omega)
      have p2 := hc (j * 4 + 2) (by omega)
      have p3 := hc (j * 4 + 3) (by omega)
      rw [← Nat.add_assoc] at p1 p2 p3
      obtain ⟨c1, z1⟩ := p1
      obtain ⟨c2, z2⟩ := p2
      obtain ⟨c3, z3⟩ := p3
      have M2 : Hid (MarkedI w ((((wo.setCell ⟨b, off + j * 4, none⟩ (.int .i64 (k + 4 * (j : Int)))).setCell ⟨b, off + j * 4 + 1, none⟩ (.int .i64 (k + 4 * (j : Int) + 1))).setCell ⟨b, off + j * 4 + 2, none⟩ (.int .i64 (k + 4 * (j : Int) + 2))).setCell ⟨b, off + j * 4 + 3, none⟩ (.int .i64 (k + 4 * (j : Int) + 3))) lo B (some ⟨b, off, none⟩) (n * 4) k ((j + 1) * 4) f) := Lib.hid (by
        have h := markedI_step (markedI_step (markedI_step (markedI_step hM.out (by omega) hb1 hb2) (by omega) hb1 hb2) (by omega) hb1 hb2) (by omega) hb1 hb2
        rw [show k + ((j * 4 : Nat) : Int) = k + 4 * (j : Int) by omega, show k + ((j * 4 + 1 : Nat) : Int) = k + 4 * (j : Int) + 1 by omega, show k + ((j * 4 + 1 + 1 : Nat) : Int) = k + 4 * (j : Int) + 2 by omega, show k + ((j * 4 + 1 + 1 + 1 : Nat) : Int) = k + 4 * (j : Int) + 3 by omega] at h
        rw [show (j + 1) * 4 = j * 4 + 1 + 1 + 1 + 1 by omega]
        exact h)
      clear hc hM
      have e1 : IntKind.i64.wrap (k + 4 * (j : Int) + 1) = k + 4 * (j : Int) + 1 := IntWalk.i64_in _ (by omega)
      have e2 : IntKind.i64.wrap (k + 4 * (j : Int) + 1 + 1) = k + 4 * (j : Int) + 2 := by rw [IntWalk.i64_in _ (by omega)]; omega
      have e3 : IntKind.i64.wrap (k + 4 * (j : Int) + 2 + 1) = k + 4 * (j : Int) + 3 := by rw [IntWalk.i64_in _ (by omega)]; omega
      have e4 : IntKind.i64.wrap (k + 4 * (j : Int) + 3 + 1) = k + 4 * ((j + 1 : Nat) : Int) := by rw [IntWalk.i64_in _ (by omega)]; omega
      go_wp2_with fail
      go_roundg (n - (j + 1))
      case measure => have := HGK.out; omega
      case rel => exact ⟨j + 1, by omega, rfl, by go_num, by first | rfl | go_num, M2⟩
    · have hjn : n = j := by omega
      subst hjn
      go_wp2_with fail
      go_ret
      exact ⟨rfl, hM.out.only, rwi_same hM.out.row fun i hi => by unfold mixI; rw [if_pos hi]⟩
set_option maxHeartbeats 1000000 in
theorem heldClueS_any (A : Option Addr) (c n : Nat) (k : Int) (lo B : Nat) (w : World) (hn : n ≤ 1048576) (hk1 : 1 ≤ k) (hk2 : k ≤ 1000000000) (hR : RwI w lo B A (n * 4) (fun i => k + (i : Int))) :
    Calls Try.prog 62 #[.slice A n c, .int .i64 k] w fun e w' => e = .returned (.int .i64 (k + 4 * (n : Int))) ∧ w = w' := by
  have HR := Lib.hid hR
  clear hR
  go_enter Try.func62, Try.ntmps62
  go_wp2_with fail
  go_loopg [1, 5] n (fun g u i wr => ∃ j : Nat, j ≤ n ∧ g = n - j ∧ i = .int .i64 j ∧ u = .int .i64 (k + 4 * (j : Int)) ∧ w = wr)
  case atStart => exact ⟨0, Nat.zero_le _, rfl, rfl, by simp, rfl⟩
  case round =>
    obtain ⟨j, hj, hg, rfl, rfl, rfl⟩ := hrel
    have HGK := Lib.hid hg
    clear hg
    by_cases hlt : j < n
    · obtain ⟨b, off, hA, hb1, hb2, hc⟩ := HR.out (by omega)
      subst hA
      have p0 := (hc (j * 4) (by omega)).1
      have p1 := (hc (j * 4 + 1) (by omega)).1
      have p2 := (hc (j * 4 + 2) (by omega)).1
      have p3 := (hc (j * 4 + 3) (by omega)).1
      rw [← Nat.add_assoc] at p1 p2 p3
      dsimp only at p0 p1 p2 p3
      rw [show k + ((j * 4 : Nat) : Int) = k + 4 * (j : Int) by omega] at p0
      rw [show k + ((j * 4 + 1 : Nat) : Int) = k + 4 * (j : Int) + 1 by omega] at p1
      rw [show k + ((j * 4 + 2 : Nat) : Int) = k + 4 * (j : Int) + 2 by omega] at p2
      rw [show k + ((j * 4 + 3 : Nat) : Int) = k + 4 * (j : Int) + 3 by omega] at p3
      have e1 : IntKind.i64.wrap (k + 4 * (j : Int) + 1) = k + 4 * (j : Int) + 1 := IntWalk.i64_in _ (by omega)
      have e2 : IntKind.i64.wrap (k + 4 * (j : Int) + 1 + 1) = k + 4 * (j : Int) + 2 := by rw [IntWalk.i64_in _ (by omega)]; omega
      have e3 : IntKind.i64.wrap (k + 4 * (j : Int) + 2 + 1) = k + 4 * (j : Int) + 3 := by rw [IntWalk.i64_in _ (by omega)]; omega
      have e4 : IntKind.i64.wrap (k + 4 * (j : Int) + 3 + 1) = k + 4 * ((j + 1 : Nat) : Int) := by rw [IntWalk.i64_in _ (by omega)]; omega
      clear hc
      go_wp2_with fail
      go_roundg (n - (j + 1))
      case measure => have := HGK.out; omega
      case rel => exact ⟨j + 1, by omega, rfl, by go_num, by first | rfl | go_num, rfl⟩
    · have hjn : n = j := by omega
      subst hjn
      go_wp2_with fail
      go_ret
      exact ⟨rfl, rfl⟩
theorem eqClue_same (a b c d : Int) (w : World) :
    Calls Try.prog 95 #[.agg #[.int .i64 a, .int .i64 b, .int .i64 c, .int .i64 d], .agg #[.int .i64 a, .int .i64 b, .int .i64 c, .int .i64 d]] w fun e w' => e = .returned (.bool true) ∧ Below w.heap.size w w' := by
  go_enter Try.func95, Try.ntmps95
  go_wp2_with fail
  go_ret
  exact ⟨rfl, (by repeat (first | exact Below.refl _ _ | assumption | apply Below.drew | refine Below.alloc ?_ (by simp <;> omega) _))⟩
set_option maxHeartbeats 2000000 in
theorem eqClueS_same (A A' : Option Addr) (c c' n : Nat) (f : Nat → Int) (w : World) (hn : n ≤ 1048576) (hR : RdI w w.heap.size A (n * 4) f) (hR' : RdI w w.heap.size A' (n * 4) f) :
    Calls Try.prog 60 #[.slice A n c, .slice A' n c'] w fun e w' => e = .returned (.bool true) ∧ Below w.heap.size w w' := by
  have HR := Lib.hid hR
  have HR' := Lib.hid hR'
  clear hR hR'
  go_enter Try.func60, Try.ntmps60
  go_wp2_with fail
  go_loopg [5] n (fun g i wr => ∃ j : Nat, j ≤ n ∧ g = n - j ∧ i = .int .i64 j ∧ Below w.heap.size w wr)
  case atStart => exact ⟨0, Nat.zero_le _, rfl, rfl, Below.refl _ _⟩
  case round =>
    obtain ⟨j, hj, hg, rfl, hB⟩ := hrel
    rename World => wo
    have HGK := Lib.hid hg
    clear hg
    by_cases hlt : j < n
    · obtain ⟨b, off, rfl, hb, hcell⟩ := HR.out (by omega)
      obtain ⟨b', off', rfl, hb', hcell'⟩ := HR'.out (by omega)
      have q0 : wo.cell? ⟨b, off + j * 4, none⟩ = some (.int .i64 (f (j * 4))) := (hB.cell (p := ⟨b, off + j * 4, none⟩) hb).trans (hcell (j * 4) (by omega))
      have q1 : wo.cell? ⟨b, off + j * 4 + 1, none⟩ = some (.int .i64 (f (j * 4 + 1))) := (hB.cell (p := ⟨b, off + j * 4 + 1, none⟩) hb).trans (hcell (j * 4 + 1) (by omega))
      have q2 : wo.cell? ⟨b, off + j * 4 + 2, none⟩ = some (.int .i64 (f (j * 4 + 2))) := (hB.cell (p := ⟨b, off + j * 4 + 2, none⟩) hb).trans (hcell (j * 4 + 2) (by omega))
      have q3 : wo.cell? ⟨b, off + j * 4 + 3, none⟩ = some (.int .i64 (f (j * 4 + 3))) := (hB.cell (p := ⟨b, off + j * 4 + 3, none⟩) hb).trans (hcell (j * 4 + 3) (by omega))
      have r0 : wo.cell? ⟨b', off' + j * 4, none⟩ = some (.int .i64 (f (j * 4))) := (hB.cell (p := ⟨b', off' + j * 4, none⟩) hb').trans (hcell' (j * 4) (by omega))
      have r1 : wo.cell? ⟨b', off' + j * 4 + 1, none⟩ = some (.int .i64 (f (j * 4 + 1))) := (hB.cell (p := ⟨b', off' + j * 4 + 1, none⟩) hb').trans (hcell' (j * 4 + 1) (by omega))
      have r2 : wo.cell? ⟨b', off' + j * 4 + 2, none⟩ = some (.int .i64 (f (j * 4 + 2))) := (hB.cell (p := ⟨b', off' + j * 4 + 2, none⟩) hb').trans (hcell' (j * 4 + 2) (by omega))
      have r3 : wo.cell? ⟨b', off' + j * 4 + 3, none⟩ = some (.int .i64 (f (j * 4 + 3))) := (hB.cell (p := ⟨b', off' + j * 4 + 3, none⟩) hb').trans (hcell' (j * 4 + 3) (by omega))
      have hz := hB.size
      have hbo : b < wo.heap.size := by omega
      have hbo' : b' < wo.heap.size := by omega
      have KE := Lib.hid (fun W => eqClue_same (f (j * 4)) (f (j * 4 + 1)) (f (j * 4 + 2)) (f (j * 4 + 3)) W)
      clear hcell hcell'
      go_wp2_with fail
      refine wp_region_BT 9 (fun W => Below (wo).heap.size (wo) W) (by kernel_rfl) (by kernel_rfl) (by repeat (first | exact Below.refl _ _ | apply Below.drew)) ?_
      simp only [List.take_succ_cons, List.take_zero, List.drop_succ_cons, List.drop_zero]
      first | refine wpH_skip (by rfl) ?_ | (refine wpH_text (v := ?_) (by rfl) (fun W k1 => ?_) ?_; rotate_left; (obtain ⟨hc1, hf1⟩ := bcell k1;  go_simp; refine comes_v ?_; exact k1))
      (try simp only [Act.put, List.setIfInBounds_toArray, List.set_cons_zero, List.set_cons_succ])
      first | refine wpH_skip (by rfl) ?_ | (refine wpH_text (v := ?_) (by rfl) (fun W k1 => ?_) ?_; rotate_left; (obtain ⟨hc1, hf1⟩ := bcell k1;  go_simp; refine comes_v ?_; exact k1))
      (try simp only [Act.put, List.setIfInBounds_toArray, List.set_cons_zero, List.set_cons_succ])
      first | refine wpH_skip (by rfl) ?_ | (refine wpH_text (v := ?_) (by rfl) (fun W k1 => ?_) ?_; rotate_left; (obtain ⟨hc1, hf1⟩ := bcell k1;  go_simp; refine comes_v ?_; exact k1))
      (try simp only [Act.put, List.setIfInBounds_toArray, List.set_cons_zero, List.set_cons_succ])
      first | refine wpH_skip (by rfl) ?_ | (refine wpH_text (v := ?_) (by rfl) (fun W k1 => ?_) ?_; rotate_left; (obtain ⟨hc1, hf1⟩ := bcell k1;  go_simp; refine comes_v ?_; exact k1))
      (try simp only [Act.put, List.setIfInBounds_toArray, List.set_cons_zero, List.set_cons_succ])
      first | refine wpH_skip (by rfl) ?_ | (refine wpH_text (v := ?_) (by rfl) (fun W k1 => ?_) ?_; rotate_left; (obtain ⟨hc1, hf1⟩ := bcell k1;  go_simp; refine comes_v ?_; exact k1))
      (try simp only [Act.put, List.setIfInBounds_toArray, List.set_cons_zero, List.set_cons_succ])
      first | refine wpH_skip (by rfl) ?_ | (refine wpH_text (v := ?_) (by rfl) (fun W k1 => ?_) ?_; rotate_left; (obtain ⟨hc1, hf1⟩ := bcell k1;  go_simp; refine comes_v ?_; exact k1))
      (try simp only [Act.put, List.setIfInBounds_toArray, List.set_cons_zero, List.set_cons_succ])
      first | refine wpH_skip (by rfl) ?_ | (refine wpH_text (v := ?_) (by rfl) (fun W k1 => ?_) ?_; rotate_left; (obtain ⟨hc1, hf1⟩ := bcell k1;  go_simp; refine comes_v ?_; exact k1))
      (try simp only [Act.put, List.setIfInBounds_toArray, List.set_cons_zero, List.set_cons_succ])
      first | refine wpH_skip (by rfl) ?_ | (refine wpH_text (v := ?_) (by rfl) (fun W k1 => ?_) ?_; rotate_left; (obtain ⟨hc1, hf1⟩ := bcell k1;  go_simp; refine comes_v ?_; exact k1))
      (try simp only [Act.put, List.setIfInBounds_toArray, List.set_cons_zero, List.set_cons_succ])
      first | refine wpH_skip (by rfl) ?_ | (refine wpH_text (v := .bool true) (by rfl) (fun W k1 => ?_) ?_; (obtain ⟨hc1, hf1⟩ := bcell k1;  go_simp; exact comes_c ( KE.out _) (fun wn hbn => k1.trans (hbn.mono k1.size))))
      (try simp only [Act.put, List.setIfInBounds_toArray, List.set_cons_zero, List.set_cons_succ])
      refine wpH_nil ?_
      intro W k1; obtain ⟨hc1, hf1⟩ := bcell k1
      have B2 := hB.trans (k1.mono hB.size)
      clear hc1 hf1 k1 q0 q1 q2 q3 r0 r1 r2 r3
      go_wp2_with fail
      go_roundg (n - (j + 1))
      case measure => have := HGK.out; omega
      case rel => exact ⟨j + 1, by omega, rfl, by go_num, B2⟩
    · have hjn : n = j := by omega
      subst hjn
      go_wp2_with fail
      go_ret
      exact ⟨rfl, hB⟩
end Go.Proofs.Ytacabmbajadbgaa
/- what a puzzle is; contracts: puzzles, the model -/
namespace Go.Proofs.Ytacabmbajadbgaa
open Go.ChangeShapes Go.WideShapes Go.ChangeAt Go.RowKit Go.Joins
set_option linter.unusedVariables false
set_option linter.unusedSimpArgs false
set_option maxRecDepth 4000
/-- are the first n clues of a row clues? -/
def allC (s : Int) (f : Nat → Int) : Nat → Bool
  | 0 => true
  | n + 1 => allC s f n && clueB s (f (n * 4)) (f (n * 4 + 1)) (f (n * 4 + 2)) (f (n * 4 + 3))
theorem allC_iff (s : Int) (f : Nat → Int) (n : Nat) : allC s f n = true ↔ ∀ i, i < n → clueB s (f (i * 4)) (f (i * 4 + 1)) (f (i * 4 + 2)) (f (i * 4 + 3)) = true := by
  induction n with
  | zero => exact ⟨fun _ i h => absurd h (Nat.not_lt_zero _), fun _ => rfl⟩
  | succ n ih =>
    have e : allC s f (n + 1) = (allC s f n && clueB s (f (n * 4)) (f (n * 4 + 1)) (f (n * 4 + 2)) (f (n * 4 + 3))) := rfl
    rw [e, Bool.and_eq_true, ih]
    constructor
    · rintro ⟨h1, h2⟩ i hi
      by_cases h : i = n
      · subst h; exact h2
      · exact h1 i (by omega)
    · intro h
      exact ⟨fun i hi => h i (by omega), h n (by omega)⟩
theorem allC_f {s : Int} {f : Nat → Int} {n k : Nat} (hk : k < n) (h : clueB s (f (k * 4)) (f (k * 4 + 1)) (f (k * 4 + 2)) (f (k * 4 + 3)) = false) : allC s f n = false := by
  cases hb : allC s f n
  · rfl
  · rw [(allC_iff s f n).1 hb k hk] at h
    exact absurd h (by simp)
def puzB (s : Int) (n : Nat) (f : Nat → Int) : Bool := inQ 1 12 s && (decide (n ≤ 6) && allC s f n)
theorem inQ_12 {s : Int} (h : inQ 1 12 s = true) : 1 ≤ s ∧ s ≤ 12 := by unfold inQ at h; simpa using h
theorem puzB_t {s : Int} {n : Nat} {f : Nat → Int} (h : puzB s n f = true) : 1 ≤ s ∧ s ≤ 12 ∧ n ≤ 6 ∧ ∀ i, i < n → clueB s (f (i * 4)) (f (i * 4 + 1)) (f (i * 4 + 2)) (f (i * 4 + 3)) = true := by
  unfold puzB at h
  simp only [Bool.and_eq_true, decide_eq_true_eq] at h
  exact ⟨(inQ_12 h.1).1, (inQ_12 h.1).2, h.2.1, (allC_iff s f n).1 h.2.2⟩
/-- a puzzle's box -/
structure Pbx (W : World) (b : Nat) (s : Int) (A : Option Addr) (n c : Nat) : Prop where
  z : b < W.heap.size
  c0 : W.cell? ⟨b, 0, none⟩ = some (.int .i64 s)
  c1 : W.cell? ⟨b, 1, none⟩ = some (.slice A n c)
theorem pbx_new (W : World) (s : Int) (A : Option Addr) (n c : Nat) (t : TypeId) : Pbx (W.alloc (.cells #[.int .i64 s, .slice A n c] t)) W.heap.size s A n c := ⟨by simp, by go_simp, by go_simp⟩
theorem pbx_below {W W' : World} {b : Nat} {s : Int} {A : Option Addr} {n c : Nat} (h : Pbx W b s A n c) (hb : Below W.heap.size W W') : Pbx W' b s A n c := ⟨Nat.lt_of_lt_of_le h.z hb.size, ((bcell hb).1 _ _ h.z).trans h.c0, ((bcell hb).1 _ _ h.z).trans h.c1⟩
/-- the four numbers of clue i, read -/
theorem clue_read {w W : World} {b off n : Nat} {f : Nat → Int} (hb : b < w.heap.size) (hc : ∀ i, i < n * 4 → w.cell? ⟨b, off + i, none⟩ = some (.int .i64 (f i))) (hB : Below w.heap.size w W) {i : Nat} (hi : i < n) :
    W.cell? ⟨b, off + i * 4, none⟩ = some (.int .i64 (f (i * 4))) ∧ W.cell? ⟨b, off + i * 4 + 1, none⟩ = some (.int .i64 (f (i * 4 + 1))) ∧ W.cell? ⟨b, off + i * 4 + 2, none⟩ = some (.int .i64 (f (i * 4 + 2))) ∧ W.cell? ⟨b, off + i * 4 + 3, none⟩ = some (.int .i64 (f (i * 4 + 3))) :=
  ⟨(hB.cell (p := ⟨b, off + i * 4, none⟩) hb).trans (hc (i * 4) (by omega)), (hB.cell (p := ⟨b, off + i * 4 + 1, none⟩) hb).trans (hc (i * 4 + 1) (by omega)), (hB.cell (p := ⟨b, off + i * 4 + 2, none⟩) hb).trans (hc (i * 4 + 2) (by omega)), (hB.cell (p := ⟨b, off + i * 4 + 3, none⟩) hb).trans (hc (i * 4 + 3) (by omega))⟩
end Go.Proofs.Ytacabmbajadbgaa

