/- lists of numbers in memory that the call itself made -/
import Derived.Test.YtakccbbdfcnjeaaK
import Derived.Test.YtakccbbdfcnjeaaR
import Derived.LoopTactic
namespace Go.Proofs.Ytakccbbdfcnjeaa
open Go.ChangeShapes Go.WideShapes Go.ChangeAt Go.RowKit Go.Joins
set_option linter.unusedVariables false
set_option linter.unusedSimpArgs false
set_option maxRecDepth 4000
/-- the slice's cells from address A on hold the numbers f 0, .., f (n - 1), may be written, and lie from block lo on, below block B -/
def RwI (w : World) (lo B : Nat) (A : Option Addr) (n : Nat) (f : Nat → Int) : Prop :=
  0 < n → ∃ b off, A = some ⟨b, off, none⟩ ∧ lo ≤ b ∧ b < B ∧ ∀ i, i < n → w.cell? ⟨b, off + i, none⟩ = some (.int .i64 (f i)) ∧ w.frozen? ⟨b, off + i, none⟩ = false
theorem rwi_block {w w' : World} {lo B : Nat} {A : Option Addr} {n : Nat} {f : Nat → Int} (h : RwI w lo B A n f) (hk : ∀ k, lo ≤ k → k < B → w'.heap[k]? = w.heap[k]?) : RwI w' lo B A n f := by
  intro hn
  obtain ⟨b, off, e, hb1, hb2, hc⟩ := h hn
  have c : ∀ o, w'.cell? ⟨b, o, none⟩ = w.cell? ⟨b, o, none⟩ := fun o => World.cell?_of_block (hk b hb1 hb2)
  have z : ∀ o, w'.frozen? ⟨b, o, none⟩ = w.frozen? ⟨b, o, none⟩ := fun o => World.frozen?_of_block (hk b hb1 hb2)
  exact ⟨b, off, e, hb1, hb2, fun i hi => by rw [c, z]; exact hc i hi⟩
theorem rwi_below {w w' : World} {lo B B' : Nat} {A : Option Addr} {n : Nat} {f : Nat → Int} (h : RwI w lo B A n f) (hb : Below B' w w') (hB : B ≤ B') : RwI w' lo B A n f :=
  rwi_block h fun k _ h2 => hb.block k (by omega)
theorem rwi_only {w w' : World} {lo B lo' B' : Nat} {A : Option Addr} {n : Nat} {f : Nat → Int} (h : RwI w lo B A n f) (ho : Only lo' B' w w') (hd : B ≤ lo' ∨ B' ≤ lo) : RwI w' lo B A n f :=
  rwi_block h fun k h1 h2 => ho.block k (by omega)
theorem rwi_more {w : World} {lo B lo' B' : Nat} {A : Option Addr} {n : Nat} {f : Nat → Int} (h : RwI w lo B A n f) (h1 : lo' ≤ lo) (h2 : B ≤ B') : RwI w lo' B' A n f := by
  intro hn
  obtain ⟨b, off, e, hb1, hb2, hc⟩ := h hn
  exact ⟨b, off, e, by omega, by omega, hc⟩
theorem rwi_same {w : World} {lo B : Nat} {A : Option Addr} {n : Nat} {f g : Nat → Int} (h : RwI w lo B A n f) (he : ∀ i, i < n → f i = g i) : RwI w lo B A n g := by
  intro hn
  obtain ⟨b, off, e, hb1, hb2, hc⟩ := h hn
  exact ⟨b, off, e, hb1, hb2, fun i hi => by rw [← he i hi]; exact hc i hi⟩
theorem rwi_store {w : World} {lo B b off n k : Nat} {f : Nat → Int} (h : RwI w lo B (some ⟨b, off, none⟩) n f) (hk : k < n) (x : Int) :
    RwI (w.setCell ⟨b, off + k, none⟩ (.int .i64 x)) lo B (some ⟨b, off, none⟩) n (fun j => if j = k then x else f j) := by
  intro hn
  obtain ⟨b', off', e, hb1, hb2, hc⟩ := h hn
  injection e with e
  injection e with e1 e2
  subst e1 e2
  refine ⟨b, off, rfl, hb1, hb2, fun i hi => ?_⟩
  obtain ⟨c1, z1⟩ := hc i hi
  refine ⟨?_, by rw [World.frozen?_setCell]; exact z1⟩
  by_cases hik : i = k
  · subst hik
    simp only [if_true]
    exact World.cell?_setCell_same w _ _ c1
  · simp only [hik, if_false]
    rw [World.cell?_setCell_other w _ _ _ (fun e => by injection e with e1 e2; omega)]
    exact c1
def mixI (k : Int) (i : Nat) (f : Nat → Int) (j : Nat) : Int := if j < i then k + (j : Int) else f j
theorem mixI_step (k : Int) (i : Nat) (f : Nat → Int) : (fun j => if j = i then k + (i : Int) else mixI k i f j) = mixI k (i + 1) f := by
  funext j
  unfold mixI
  by_cases h : j = i
  · subst h; rw [if_pos rfl, if_pos (by omega)]
  · rw [if_neg h]
    by_cases h2 : j < i
    · rw [if_pos h2, if_pos (by omega)]
    · rw [if_neg h2, if_neg (by omega)]
structure MarkedI (w w' : World) (lo B : Nat) (A : Option Addr) (n : Nat) (k : Int) (i : Nat) (f : Nat → Int) : Prop where
  only : Only lo B w w'
  row : RwI w' lo B A n (mixI k i f)
theorem markedI_step {w w' : World} {lo B b off n i : Nat} {k : Int} {f : Nat → Int} (h : MarkedI w w' lo B (some ⟨b, off, none⟩) n k i f) (hi : i < n) (hb : lo ≤ b) (hB : b < B) :
    MarkedI w (w'.setCell ⟨b, off + i, none⟩ (.int .i64 (k + (i : Int)))) lo B (some ⟨b, off, none⟩) n k (i + 1) f :=
  ⟨h.only.set hb hB _, by
    have := rwi_store h.row hi (k + (i : Int))
    rw [mixI_step k i f] at this
    exact this⟩
theorem bw_keep {w W W' : World} (h : Below w.heap.size w W) (hb : Below W.heap.size W W') : Below w.heap.size w W' := h.trans (hb.mono h.size)
/-- a call that gives p numbers F and says whether there are such -/
def RetNI (w : World) (p : Nat) (F : Nat → Int) (b : Bool) (e : Ending) (w' : World) : Prop :=
  ∃ A c, e = .returned (.tuple #[.slice A p c, .bool b]) ∧ Below w.heap.size w w' ∧ RwI w' w.heap.size w'.heap.size A p F
theorem retNI_nil {w w' : World} {F : Nat → Int} (hb : Below w.heap.size w w') : RetNI w 0 F false (.returned (.tuple #[.slice none 0 0, .bool false])) w' :=
  ⟨none, 0, rfl, hb, fun h => absurd h (by omega)⟩
/-- three numbers in a new block -/
theorem rwi_three {w : World} {g : Nat} {x y z : Int} (hg : g < w.heap.size) (h0 : w.cell? ⟨g, 0, none⟩ = some (.int .i64 x)) (h1 : w.cell? ⟨g, 1, none⟩ = some (.int .i64 y)) (h2 : w.cell? ⟨g, 2, none⟩ = some (.int .i64 z)) (hf : ∀ o, w.frozen? ⟨g, o, none⟩ = false) :
    RwI w g w.heap.size (some ⟨g, 0, none⟩) 3 (fun i => if i = 0 then x else if i = 1 then y else z) := by
  intro _
  refine ⟨g, 0, rfl, Nat.le_refl _, hg, fun i hi => ⟨?_, hf _⟩⟩
  rw [Nat.zero_add]
  match i, hi with
  | 0, _ => exact h0
  | 1, _ => exact h1
  | 2, _ => exact h2
end Go.Proofs.Ytakccbbdfcnjeaa
