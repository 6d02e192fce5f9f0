/- contract: the straight lines of a board, the program -/
import Derived.Test.YtmhdbodmpohdnaaOn
import Derived.Test.YtmhdbodmpohdnaaTb00
import Derived.Test.YtmhdbodmpohdnaaR
import Derived.Test.YtmhdbodmpohdnaaRa
import Derived.Maps.AppendAt
namespace Go.Proofs.Ytmhdbodmpohdnaa
open Go.ChangeShapes Go.WideShapes Go.ChangeAt Go.RowKit Go.Joins
set_option linter.unusedVariables false
set_option linter.unusedSimpArgs false
set_option maxRecDepth 4000
theorem bt_keep' {w W W' : World} (h : Below w.heap.size w W) (hb : Below W.heap.size W W') : Below w.heap.size w W' := h.trans (hb.mono h.size)
theorem stC_eq (w h k m : Nat) : stC w h k m = (decide (stepN (bX h k).1 (bX h k).2 (bX h m).1 (bX h m).2 = 1) && !(onQ w h ((bX h k).1 - ((bX h m).1 - (bX h k).1)) ((bX h k).2 - ((bX h m).2 - (bX h k).2)))) := by
  unfold stC cnd bX stepN
  simp only
  congr 1
  rw [Bool.eq_iff_iff]
  simp only [decide_eq_true_eq]
  constructor
  · intro q
    have := Nat.eq_of_beq_eq_true q
    omega
  · intro q
    have : ∀ x : Nat, ((x : Nat) : Int) = 1 → Nat.beq x 1 = true := fun x hx => by
      have : x = 1 := by omega
      subst this
      rfl
    exact this _ q
theorem stE_eq (w h k m : Nat) : stE w h k m = ((bX h m).1 - (bX h k).1, (bX h m).2 - (bX h k).2, ((alg w h ((bX h m).1 - (bX h k).1) ((bX h m).2 - (bX h k).2) 13 (bX h k).1 (bX h k).2 : Nat) : Int)) := rfl
theorem bX_lt {h k m : Nat} (hkm : k < m) (hh : 0 < h) : 1 ≤ (bX h m).1 - (bX h k).1 ∨ ((bX h m).1 - (bX h k).1 = 0 ∧ 1 ≤ (bX h m).2 - (bX h k).2) := by
  unfold bX
  simp only
  have e1 := Nat.div_add_mod k h
  have e2 := Nat.div_add_mod m h
  have l1 := Nat.mod_lt k hh
  have l2 := Nat.mod_lt m hh
  rcases Nat.lt_trichotomy (k / h) (m / h) with g | g | g
  · left; omega
  · right; rw [g] at e1; omega
  · have := Nat.mul_le_mul_left h (show m / h + 1 ≤ k / h from g)
    rw [Nat.mul_add, Nat.mul_one] at this
    omega
/-- steps and numbers as cells -/
def flat3 (l : List (Int × Int × Int)) : List Value := l.flatMap fun p => [.int .i64 p.1, .int .i64 p.2.1, .int .i64 p.2.2]
theorem flat3_snoc (l : List (Int × Int × Int)) (p : Int × Int × Int) : flat3 (l ++ [p]) = flat3 l ++ [.int .i64 p.1, .int .i64 p.2.1, .int .i64 p.2.2] := by
  unfold flat3; rw [List.flatMap_append]; rfl
theorem flat3_get (l : List (Int × Int × Int)) : ∀ i p, l[i]? = some p → (flat3 l)[i * 3]? = some (.int .i64 p.1) ∧ (flat3 l)[i * 3 + 1]? = some (.int .i64 p.2.1) ∧ (flat3 l)[i * 3 + 2]? = some (.int .i64 p.2.2) := by
  induction l with
  | nil => intro i p h; simp at h
  | cons q l ih =>
    intro i p hi
    have e : flat3 (q :: l) = [.int .i64 q.1, .int .i64 q.2.1, .int .i64 q.2.2] ++ flat3 l := rfl
    rw [e]
    cases i with
    | zero => simp at hi; subst hi; exact ⟨rfl, rfl, rfl⟩
    | succ i =>
      have h := ih i p (by simpa using hi)
      rw [show (i + 1) * 3 = 3 + i * 3 by omega, List.getElem?_append_right (by simp), List.getElem?_append_right (by simp; omega), List.getElem?_append_right (by simp; omega)]
      simpa [show 3 + i * 3 - 3 = i * 3 by omega, show 3 + i * 3 + 1 - 3 = i * 3 + 1 by omega, show 3 + i * 3 + 2 - 3 = i * 3 + 2 by omega] using h
theorem straight_info : (Try.prog.info? 64).map (fun i => (i.zero, i.size, i.bytes)) = some (some (.agg #[.int .i64 0, .int .i64 0, .int .i64 0]), 3, 24) := by kernel_rfl
theorem three_cells {w : World} {g : Nat} {x y z : Value} (h1 : w.cell? ⟨g, 0, none⟩ = some x) (h2 : w.cell? ⟨g, 1, none⟩ = some y) (h3 : w.cell? ⟨g, 2, none⟩ = some z) : ∀ j u, [x, y, z][j]? = some u → w.cell? ((⟨g, 0, none⟩ : Addr).add j) = some u := by
  intro j u hj
  match j, hj with
  | 0, hj => simp at hj; subst hj; exact h1
  | 1, hj => simp at hj; subst hj; exact h2
  | 2, hj => simp at hj; subst hj; exact h3
theorem three_one (x y z : Int) : ∀ u ∈ [Value.int .i64 x, Value.int .i64 y, Value.int .i64 z], u.oneCell' = true := by
  intro u hu; simp at hu; rcases hu with rfl | rfl | rfl <;> rfl
def RowT (w : World) (base : Nat) (v : Value) (L : List (Int × Int × Int)) : Prop := w.ownsRow base 64 3 v L.length (flat3 L)
theorem rowT_below {w w' : World} {base B : Nat} {v : Value} {L : List (Int × Int × Int)} (h : RowT w base v L) (hb : Below B w w') (hB : w.heap.size ≤ B) : RowT w' base v L := by
  have hlt := World.ownsRow.lt h
  obtain ⟨h1, h2⟩ := h
  rcases h2 with h2 | ⟨g, cap, cur, hv, hg, hh, r⟩
  · exact ⟨h1, .inl h2⟩
  · have hl := hlt g (by rw [hv]; rfl)
    exact ⟨h1, .inr ⟨g, cap, cur, hv, hg, (hb.block g (by omega)).trans hh, r⟩⟩
theorem PtC.grown {w W W' : World} {b : Nat} {x y : Int} {row : Option Nat} (h : PtC w W b x y) (hg : W.grownBy W' row) (hne : row ≠ some b) : PtC w W' b x y := by
  have hb : W'.heap[b]? = W.heap[b]? := hg.block b h.hi (fun e => hne e.symm)
  exact ⟨h.lo, Nat.lt_of_lt_of_le h.hi hg.size, (World.cell?_of_block hb).trans h.c0, (World.cell?_of_block hb).trans h.c1, fun o => (World.frozen?_of_block hb).trans (h.fz o)⟩
/-- the world of the inner loop -/
structure LnS (w1 W : World) (v : Value) (L : List (Int × Int × Int)) (X : Nat) (a1 a2 : Int) : Prop where
  bel : Below w1.heap.size w1 W
  row : RowT W w1.heap.size v L
  box : PtC w1 W X a1 a2
  oth : v.ownBlock ≠ some X
theorem LnS.up {w1 W W' : World} {v : Value} {L : List (Int × Int × Int)} {X : Nat} {a1 a2 : Int} (h : LnS w1 W v L X a1 a2) (hb : Below W.heap.size W W') : LnS w1 W' v L X a1 a2 :=
  ⟨h.bel.trans (hb.mono h.bel.size), rowT_below h.row hb (Nat.le_refl _), h.box.up hb, h.oth⟩
theorem LnS.new {w1 W : World} {v : Value} {L : List (Int × Int × Int)} (hb : Below w1.heap.size w1 W) (hr : RowT W w1.heap.size v L) (a1 a2 : Int) : LnS w1 (W.alloc (.cells #[.int .i64 a1, .int .i64 a2] 28)) v L W.heap.size a1 a2 :=
  ⟨Below.alloc hb hb.size _, World.ownsRow.alloc hr _, PtC.new hb.size a1 a2 _, fun e => by have := (World.ownsRow.lt hr _ e).2; omega⟩
theorem LnS.push {w1 W w' : World} {v v' : Value} {L : List (Int × Int × Int)} {X : Nat} {a1 a2 : Int} {p : Int × Int × Int} (h : LnS w1 W v L X a1 a2) (ho : w'.ownsRow w1.heap.size 64 3 v' (L.length + 1) (flat3 L ++ [.int .i64 p.1, .int .i64 p.2.1, .int .i64 p.2.2])) (hg : W.grownBy w' v.ownBlock) (hat : v'.ownBlock = v.ownBlock ∨ v'.ownBlock = some W.heap.size) : LnS w1 w' v' (L ++ [p]) X a1 a2 :=
  ⟨h.bel.grown hg h.bel.size (fun g hgk => (World.ownsRow.lt h.row g hgk).1), by unfold RowT; rw [flat3_snoc, List.length_append]; exact ho, h.box.grown hg h.oth, by
    rcases hat with e | e
    · rw [e]; exact h.oth
    · rw [e]; intro q; have := h.box.hi; injection q with q; omega⟩
/-- what a call gives that makes a list of lines -/
def RetT (w : World) (L : List (Int × Int × Int)) (e : Ending) (w' : World) : Prop :=
  ∃ v, e = .returned v ∧ Below w.heap.size w w' ∧ RowT w' w.heap.size v L
theorem rowT_base {w : World} {base base' : Nat} {v : Value} {L : List (Int × Int × Int)} (h : RowT w base v L) (hB : base' ≤ base) : RowT w base' v L := by
  obtain ⟨h1, h2⟩ := h
  refine ⟨h1, ?_⟩
  rcases h2 with h2 | ⟨g, cap, cur, hv, hg, r⟩
  · exact .inl h2
  · exact .inr ⟨g, cap, cur, hv, Nat.le_trans hB hg, r⟩
set_option maxRecDepth 100000 in
set_option maxHeartbeats 8000000 in
theorem straights_any (nw nh : Nat) (w : World) (h1 : nw ≤ 12) (h2 : nh ≤ 12) :
    Calls Try.prog 59 #[.agg #[.int .i64 nw, .int .i64 nh]] w (RetT w (stS nw nh (nw * nh))) := by
  obtain ⟨i0, hi0, hz0, hz1, hz2⟩ := info_parts straight_info
  have HI := Lib.hid (And.intro hi0 (And.intro hz0 (And.intro hz1 hz2)))
  have h3 := bd_mul h1 h2
  have KP := Lib.hid (fun W => boardPegs_any nw nh W h1 h2)
  have HW : Hid (nw ≤ 12 ∧ nh ≤ 12) := Lib.hid ⟨h1, h2⟩
  have KST : Hid (∀ k m W, k < nw * nh → m < nw * nh → Calls Try.prog 63 #[.agg #[.int .i64 (bX nh k).1, .int .i64 (bX nh k).2], .agg #[.int .i64 (bX nh m).1, .int .i64 (bX nh m).2]] W fun e w' => e = .returned (.int .i64 (stepN (bX nh k).1 (bX nh k).2 (bX nh m).1 (bX nh m).2)) ∧ Below W.heap.size W w') :=
    Lib.hid (fun k m W hk hm => stepsTo_any _ _ _ _ W (bX_sz h1 h2 hk) (bX_sz h1 h2 hm))
  have KHS : Hid (∀ x y W, Calls Try.prog 46 #[.agg #[.int .i64 nw, .int .i64 nh], .agg #[.int .i64 x, .int .i64 y]] W fun e w' => e = .returned (.bool (onQ nw nh x y)) ∧ Below W.heap.size W w') :=
    Lib.hid (fun x y W => by rw [onQ_eq]; exact has_any nw nh x y W (by omega) (by omega))
  have KAL : Hid (∀ k m W, k < m → m < nw * nh → Calls Try.prog 70 #[.agg #[.int .i64 nw, .int .i64 nh], .agg #[.int .i64 (bX nh k).1, .int .i64 (bX nh k).2], .agg #[.int .i64 ((bX nh m).1 - (bX nh k).1), .int .i64 ((bX nh m).2 - (bX nh k).2)]] W fun e w' => e = .returned (.int .i64 ((alg nw nh ((bX nh m).1 - (bX nh k).1) ((bX nh m).2 - (bX nh k).2) 13 (bX nh k).1 (bX nh k).2 : Nat) : Int)) ∧ Below W.heap.size W w') :=
    Lib.hid (fun k m W hkm hm => by
      have b1 := bX_bd (show k < nw * nh by omega)
      have b2 := bX_bd hm
      exact countAlong_any nw nh _ _ _ _ W h1 h2 (by omega) (by omega) (by omega) (by omega) (bX_lt hkm (by omega)))
  have HBD : Hid (∀ k, k < nw * nh → 0 ≤ (bX nh k).1 ∧ (bX nh k).1 ≤ 12 ∧ 0 ≤ (bX nh k).2 ∧ (bX nh k).2 ≤ 12) := Lib.hid (fun k hk => by have := bX_bd hk; omega)
  have HCC : Hid (∀ k m, stC nw nh k m = (decide (stepN (bX nh k).1 (bX nh k).2 (bX nh m).1 (bX nh m).2 = 1) && !(onQ nw nh ((bX nh k).1 - ((bX nh m).1 - (bX nh k).1)) ((bX nh k).2 - ((bX nh m).2 - (bX nh k).2))))) := Lib.hid (fun k m => stC_eq nw nh k m)
  have HR0 : Hid (∀ k, stR nw nh k 0 = []) := Lib.hid (fun k => rfl)
  have HRY : Hid (∀ k j, stC nw nh k (k + 1 + j) = true → stR nw nh k (j + 1) = stR nw nh k j ++ [((bX nh (k + 1 + j)).1 - (bX nh k).1, (bX nh (k + 1 + j)).2 - (bX nh k).2, ((alg nw nh ((bX nh (k + 1 + j)).1 - (bX nh k).1) ((bX nh (k + 1 + j)).2 - (bX nh k).2) 13 (bX nh k).1 (bX nh k).2 : Nat) : Int))]) := Lib.hid (fun k j h => by rw [stR, if_pos h, stE_eq])
  have HRN : Hid (∀ k j, stC nw nh k (k + 1 + j) = false → stR nw nh k (j + 1) = stR nw nh k j) := Lib.hid (fun k j h => by rw [stR, if_neg (by rw [h]; simp)])
  have HS0 : Hid (stS nw nh 0 = []) := Lib.hid rfl
  have HS1 : Hid (∀ k, stS nw nh (k + 1) = stS nw nh k ++ stR nw nh k (nw * nh - 1 - k)) := Lib.hid (fun k => rfl)
  have HLN : Hid (∀ k j, k ≤ nw * nh → j ≤ nw * nh → (stS nw nh k ++ stR nw nh k j).length ≤ 100000) := Lib.hid (fun k j hk hj => by
    have l1 := stS_len nw nh k hk
    have l2 := stR_len nw nh k j
    have l3 := Nat.mul_le_mul (Nat.le_trans hk h3) h3
    rw [List.length_append]
    omega)
  have HAL : Hid (∀ (x y : Int), 0 ≤ x) → True := fun _ => trivial
  clear hi0 hz0 hz1 hz2 HAL
  generalize stS nw nh = SS at *
  generalize stR nw nh = RR at *
  generalize stC nw nh = CC at *
  generalize alg nw nh = AL at *
  generalize onQ nw nh = OO at *
  generalize bX nh = f at *
  generalize hNN : nw * nh = n at *
  have HNN := Lib.hid hNN
  clear hNN h1 h2
  go_enter Try.func59, Try.ntmps59
  go_wp2_with fail
  obtain ⟨W0, hW0⟩ : ∃ W0, W0 = (w.alloc (.cells #[.int .i64 ((nw : Int)), .int .i64 ((nh : Int))] 34)) := ⟨_, rfl⟩
  rw [← hW0]
  have yW00_0 : W0.cell? ⟨w.heap.size, 0, none⟩ = some (.int .i64 ((nw : Int))) := by rw [hW0]; go_simp
  have yW00_1 : W0.cell? ⟨w.heap.size, 1, none⟩ = some (.int .i64 ((nh : Int))) := by rw [hW0]; go_simp
  have fW00 : ∀ o, W0.frozen? ⟨w.heap.size, o, none⟩ = false := by intro o; rw [hW0]; (repeat rw [frozen?_alloc_cells]); simp [World.frozen?]
  have zW00 : w.heap.size < W0.heap.size := by rw [hW0]; simp <;> omega
  have BW0 : Below w.heap.size w W0 := by rw [hW0]; exact (Below.alloc (Below.refl _ _) (by simp <;> omega) _)
  have eW0 : Hid (W0.heap.size = w.heap.size + 1) := Lib.hid (by rw [hW0]; simp)
  clear hW0
  refine (KP.out W0).mono ?_; intro e w1 hret
  obtain ⟨A, c, rfl, hc1, hc2, hb1, hrd⟩ := retP_read hret
  have HC := Lib.hid hrd
  have y0 := ((bcell hb1).1 _ 0 zW00).trans yW00_0
  have y1 := ((bcell hb1).1 _ 1 zW00).trans yW00_1
  have z1 := Nat.lt_of_lt_of_le zW00 hb1.size
  have BB := BW0.trans (hb1.mono BW0.size)
  unfold maxLen at hc2
  clear hret hrd hb1 yW00_0 yW00_1 fW00 zW00 eW0 BW0 KP
  go_wp2_with fail
  go_loopg [3, 14] n (fun g s i wr => ∃ (k : Nat) (v : Value), v = s ∧ k ≤ n ∧ g = n - k ∧ i = .int .i64 k ∧ Below w1.heap.size w1 wr ∧ Hid (RowT wr w1.heap.size v (SS k)))
  case atStart => exact ⟨0, _, rfl, Nat.zero_le _, rfl, rfl, Below.refl _ _, Lib.hid (by rw [HS0.out]; exact World.ownsRow_nil _ _ _ _)⟩
  case round =>
    obtain ⟨k, v, rfl, hk, hg, rfl, hB, hr⟩ := hrel
    rename World => wo
    have HGK := Lib.hid hg
    clear hg
    by_cases hlt : k < n
    · obtain ⟨b, off, hA, hb, x1, x2⟩ := HC.out wo hB k hlt
      subst hA
      have zB := hB.size
      have zo := Nat.lt_of_lt_of_le z1 zB
      have zb := Nat.lt_of_lt_of_le hb zB
      have HSk := Lib.hid (HS1.out k)
      obtain ⟨a1, a2, hae⟩ : ∃ a1 a2, f k = (a1, a2) := ⟨_, _, rfl⟩
      have HAE := Lib.hid hae
      have hba := HBD.out k hlt
      rw [hae] at x1 x2 hba
      clear hae
      have HBA := Lib.hid hba
      have hk1 : (k : Int) + 1 ≤ n := by omega
      have hkc : k + 1 ≤ c := by omega
      have HL0 := Lib.hid (LnS.new hB hr.out a1 a2)
      clear hba hr
      by_cases hlast : k + 1 = n
      · have HSe : Hid (SS (k + 1) = SS k) := Lib.hid (by rw [HSk.out, show n - 1 - k = 0 by omega, HR0.out, List.append_nil])
        by_cases hce : n = c
        · subst hce
          go_wp2_with fail
          go_loopg [3, 24] 0 (fun g2 s j wi => j = .int .i64 0 ∧ s = v ∧ Hid (LnS w1 wi v (SS k) wo.heap.size a1 a2))
          case atStart => exact ⟨rfl, rfl, HL0⟩
          case round =>
            obtain ⟨rfl, rfl, hL⟩ := hrel
            go_wp2_with fail
            go_roundg (n - (k + 1))
            case measure => have := HGK.out; omega
            case rel => exact ⟨k + 1, _, rfl, by omega, rfl, by go_num, hL.out.bel, Lib.hid (by rw [HSe.out]; exact hL.out.row)⟩
        · have hcn : ¬ c = k + 1 := by omega
          go_wp2_with fail
          go_loopg [3, 24] 0 (fun g2 s j wi => j = .int .i64 0 ∧ s = v ∧ Hid (LnS w1 wi v (SS k) wo.heap.size a1 a2))
          case atStart => exact ⟨rfl, rfl, HL0⟩
          case round =>
            obtain ⟨rfl, rfl, hL⟩ := hrel
            go_wp2_with fail
            go_roundg (n - (k + 1))
            case measure => have := HGK.out; omega
            case rel => exact ⟨k + 1, _, rfl, by omega, rfl, by go_num, hL.out.bel, Lib.hid (by rw [HSe.out]; exact hL.out.row)⟩
      · have hcn : ¬ c = k + 1 := by omega
        go_wp2_with fail
        go_loopg [3, 24] (n - (k + 1)) (fun g2 s j wi => ∃ (m : Nat) (u : Value), u = s ∧ m ≤ n - (k + 1) ∧ g2 = n - (k + 1) - m ∧ j = .int .i64 m ∧ Hid (LnS w1 wi u (SS k ++ RR k m) wo.heap.size a1 a2))
        case atStart => exact ⟨0, _, rfl, Nat.zero_le _, rfl, rfl, Lib.hid (by rw [HR0.out, List.append_nil]; exact HL0.out)⟩
        case round =>
          clear HL0 x1 x2 hB
          rename Value => v0
          obtain ⟨m, u, rfl, hm, hg2, rfl, hL⟩ := hrel
          rename World => wi
          have HGM := Lib.hid hg2
          clear hg2
          by_cases hlm : m < n - (k + 1)
          · obtain ⟨b', off', hA', _, q3, q4⟩ := HC.out wi hL.out.bel (k + 1 + m) (by omega)
            obtain ⟨rfl, rfl⟩ : b' = b ∧ off' = off := by simp at hA'; exact ⟨hA'.1.symm, hA'.2.symm⟩
            rw [show off' + (k + 1 + m) * 2 = off' + (k + 1) * 2 + m * 2 by omega] at q3 q4
            have hmi : (m : Int) < (n : Int) - ((k : Int) + 1) := by omega
            have KS1 := Lib.hid (fun W => KST.out k (k + 1 + m) W hlt (by omega))
            have KA1 := Lib.hid (fun W => KAL.out k (k + 1 + m) W (by omega) (by omega))
            have HC1 := Lib.hid (HCC.out k (k + 1 + m))
            have HY1 := Lib.hid (HRY.out k m)
            have HN1 := Lib.hid (HRN.out k m)
            have hbb := HBD.out (k + 1 + m) (by omega)
            have hln := HLN.out k m (by omega) (by omega)
            obtain ⟨c1, c2, hce⟩ : ∃ c1 c2, f (k + 1 + m) = (c1, c2) := ⟨_, _, rfl⟩
            rw [hce] at q3 q4 KS1 KA1 HC1 HY1 hbb
            rw [HAE.out] at KS1 KA1 HC1 HY1
            clear hce
            simp only at KS1 KA1 HC1 HY1 hbb q3 q4
            have hba := HBA.out
            have zi := hL.out.bel.size
            have zi1 := Nat.lt_of_lt_of_le z1 zi
            have zib := Nat.lt_of_lt_of_le hb zi
            have r0 := ((bcell hL.out.bel).1 _ 0 z1).trans y0
            have r1 := ((bcell hL.out.bel).1 _ 1 z1).trans y1
            have s0 := hL.out.box.c0
            have s1 := hL.out.box.c1
            have zx := hL.out.box.hi
            have KM1 := Lib.hid (fun W => minus_any c1 c2 a1 a2 W (by unfold Mid; omega) (by unfold Mid; omega) (by unfold Mid; omega) (by unfold Mid; omega))
            have KM2 := Lib.hid (fun W => minus_any a1 a2 (c1 - a1) (c2 - a2) W (by unfold Mid; omega) (by unfold Mid; omega) (by unfold Mid; omega) (by unfold Mid; omega))
            have KH1 := Lib.hid (fun W => KHS.out (a1 - (c1 - a1)) (a2 - (c2 - a2)) W)
            generalize stepN a1 a2 c1 c2 = sN at *
            generalize AL (c1 - a1) (c2 - a2) 13 a1 a2 = al at *
            generalize hoo : OO (a1 - (c1 - a1)) (a2 - (c2 - a2)) = oo at *
            generalize a1 - (c1 - a1) = e1 at *
            generalize a2 - (c2 - a2) = e2 at *
            generalize c1 - a1 = d1 at *
            generalize c2 - a2 = d2 at *
            generalize hLL : SS k ++ RR k m = LL at *
            have HLL := Lib.hid hLL
            clear hLL hoo
            go_wp2_with fail
            obtain ⟨Wb, hWb⟩ : ∃ Wb, Wb = (wi.alloc (.cells #[.int .i64 c1, .int .i64 c2] 28)) := ⟨_, rfl⟩
            rw [← hWb]
            have yWb0_0 : Wb.cell? ⟨wi.heap.size, 0, none⟩ = some (.int .i64 c1) := by rw [hWb]; go_simp
            have yWb0_1 : Wb.cell? ⟨wi.heap.size, 1, none⟩ = some (.int .i64 c2) := by rw [hWb]; go_simp
            have fWb0 : ∀ o, Wb.frozen? ⟨wi.heap.size, o, none⟩ = false := by intro o; rw [hWb]; (repeat rw [frozen?_alloc_cells]); simp [World.frozen?]
            have zWb0 : wi.heap.size < Wb.heap.size := by rw [hWb]; simp <;> omega
            have BWb : Below wi.heap.size wi Wb := by rw [hWb]; exact (Below.alloc (Below.refl _ _) (by simp <;> omega) _)
            have eWb : Hid (Wb.heap.size = wi.heap.size + 1) := Lib.hid (by rw [hWb]; simp)
            clear hWb
            have L1 := Lib.hid (hL.out.up BWb)
            have r2 := ((bcell BWb).1 _ 0 zi1).trans r0
            have r3 := ((bcell BWb).1 _ 1 zi1).trans r1
            have s2 := L1.out.box.c0
            have s3 := L1.out.box.c1
            have zx1 := L1.out.box.hi
            have zi2 := Nat.lt_of_lt_of_le zi1 BWb.size
            clear hL q3 q4 r0 r1 s0 s1 BWb eWb fWb0
            refine (KM1.out Wb).mono ?_; rintro e w3 ⟨rfl, hb3⟩
            have L3 := Lib.hid (L1.out.up hb3)
            have r4 := ((bcell hb3).1 _ 0 zi2).trans r2
            have r5 := ((bcell hb3).1 _ 1 zi2).trans r3
            have s4 := L3.out.box.c0
            have s5 := L3.out.box.c1
            have t4 := ((bcell hb3).1 _ 0 zWb0).trans yWb0_0
            have t5 := ((bcell hb3).1 _ 1 zWb0).trans yWb0_1
            have zx3 := L3.out.box.hi
            have zi3 := Nat.lt_of_lt_of_le zi2 hb3.size
            have zb3 := Nat.lt_of_lt_of_le zWb0 hb3.size
            clear L1 r2 r3 s2 s3 yWb0_0 yWb0_1 zx zx1 zi1 zi2 zWb0 hb3 KM1
            go_wp2_with fail
            obtain ⟨Wd, hWd⟩ : ∃ Wd, Wd = (w3.alloc (.cells #[.int .i64 d1, .int .i64 d2] 28)) := ⟨_, rfl⟩
            rw [← hWd]
            have yWd0_0 : Wd.cell? ⟨w3.heap.size, 0, none⟩ = some (.int .i64 d1) := by rw [hWd]; go_simp
            have yWd0_1 : Wd.cell? ⟨w3.heap.size, 1, none⟩ = some (.int .i64 d2) := by rw [hWd]; go_simp
            have fWd0 : ∀ o, Wd.frozen? ⟨w3.heap.size, o, none⟩ = false := by intro o; rw [hWd]; (repeat rw [frozen?_alloc_cells]); simp [World.frozen?]
            have zWd0 : w3.heap.size < Wd.heap.size := by rw [hWd]; simp <;> omega
            have BWd : Below w3.heap.size w3 Wd := by rw [hWd]; exact (Below.alloc (Below.refl _ _) (by simp <;> omega) _)
            have eWd : Hid (Wd.heap.size = w3.heap.size + 1) := Lib.hid (by rw [hWd]; simp)
            clear hWd
            have L5 := Lib.hid (L3.out.up BWd)
            have r6 := ((bcell BWd).1 _ 0 zi3).trans r4
            have r7 := ((bcell BWd).1 _ 1 zi3).trans r5
            have s6 := L5.out.box.c0
            have s7 := L5.out.box.c1
            have t6 := ((bcell BWd).1 _ 0 zb3).trans t4
            have t7 := ((bcell BWd).1 _ 1 zb3).trans t5
            have zx5 := L5.out.box.hi
            have zi5 := Nat.lt_of_lt_of_le zi3 BWd.size
            have zb5 := Nat.lt_of_lt_of_le zb3 BWd.size
            clear L3 r4 r5 s4 s5 t4 t5 zx3 zi3 zb3 BWd eWd fWd0
            by_cases hs : sN = 1
            · subst hs
              by_cases ho : oo = true
              · subst ho
                have HN2 := Lib.hid (HN1.out (by rw [HC1.out]; rfl))
                clear HC1 HY1 HN1
                refine wp_region_B (fun W => Below Wd.heap.size Wd W) (by kernel_rfl) (by repeat (first | exact Below.refl _ _ | apply Below.drew)) ?_
                first | refine wpB_skip 0 rfl (by kernel_rfl) (by kernel_rfl) (by kernel_rfl) (by rfl) ?_ | (refine wpB_text 0 (v := ?_) rfl (by kernel_rfl) (by kernel_rfl) (by kernel_rfl) (by rfl) (fun W hW => ?_) ?_; rotate_left; (have k1 := hW; obtain ⟨hc1, hf1⟩ := bcell k1; go_simp; refine comes_v ?_; exact k1))
                (try simp only [Act.put, List.setIfInBounds_toArray, List.set_cons_zero, List.set_cons_succ])
                first | refine wpB_skip 1 rfl (by kernel_rfl) (by kernel_rfl) (by kernel_rfl) (by rfl) ?_ | (refine wpB_text 1 (v := ?_) rfl (by kernel_rfl) (by kernel_rfl) (by kernel_rfl) (by rfl) (fun W hW => ?_) ?_; rotate_left; (have k1 := hW; obtain ⟨hc1, hf1⟩ := bcell k1; go_simp; refine comes_v ?_; exact k1))
                (try simp only [Act.put, List.setIfInBounds_toArray, List.set_cons_zero, List.set_cons_succ])
                first | refine wpB_skip 2 rfl (by kernel_rfl) (by kernel_rfl) (by kernel_rfl) (by rfl) ?_ | (refine wpB_text 2 (v := .int .i64 1) rfl (by kernel_rfl) (by kernel_rfl) (by kernel_rfl) (by rfl) (fun W hW => ?_) ?_; (have k1 := hW; obtain ⟨hc1, hf1⟩ := bcell k1; go_simp; exact comes_c ( KS1.out _) (fun wn hbn => bt_keep' k1 hbn)))
                (try simp only [Act.put, List.setIfInBounds_toArray, List.set_cons_zero, List.set_cons_succ])
                first | refine wpB_skip 3 rfl (by kernel_rfl) (by kernel_rfl) (by kernel_rfl) (by rfl) ?_ | (refine wpB_text 3 (v := ?_) rfl (by kernel_rfl) (by kernel_rfl) (by kernel_rfl) (by rfl) (fun W hW => ?_) ?_; rotate_left; (have k1 := hW; obtain ⟨hc1, hf1⟩ := bcell k1; go_simp; refine comes_v ?_; exact k1))
                (try simp only [Act.put, List.setIfInBounds_toArray, List.set_cons_zero, List.set_cons_succ])
                first | refine wpB_skip 4 rfl (by kernel_rfl) (by kernel_rfl) (by kernel_rfl) (by rfl) ?_ | (refine wpB_text 4 (v := ?_) rfl (by kernel_rfl) (by kernel_rfl) (by kernel_rfl) (by rfl) (fun W hW => ?_) ?_; rotate_left; (have k1 := hW; obtain ⟨hc1, hf1⟩ := bcell k1; go_simp; refine comes_v ?_; exact k1))
                (try simp only [Act.put, List.setIfInBounds_toArray, List.set_cons_zero, List.set_cons_succ])
                first | refine wpB_skip 5 rfl (by kernel_rfl) (by kernel_rfl) (by kernel_rfl) (by rfl) ?_ | (refine wpB_text 5 (v := ?_) rfl (by kernel_rfl) (by kernel_rfl) (by kernel_rfl) (by rfl) (fun W hW => ?_) ?_; rotate_left; (have k1 := hW; obtain ⟨hc1, hf1⟩ := bcell k1; go_simp; refine comes_v ?_; exact k1))
                (try simp only [Act.put, List.setIfInBounds_toArray, List.set_cons_zero, List.set_cons_succ])
                first | refine wpB_skip 6 rfl (by kernel_rfl) (by kernel_rfl) (by kernel_rfl) (by rfl) ?_ | (refine wpB_text 6 (v := ?_) rfl (by kernel_rfl) (by kernel_rfl) (by kernel_rfl) (by rfl) (fun W hW => ?_) ?_; rotate_left; (have k1 := hW; obtain ⟨hc1, hf1⟩ := bcell k1; go_simp; refine comes_v ?_; exact k1))
                (try simp only [Act.put, List.setIfInBounds_toArray, List.set_cons_zero, List.set_cons_succ])
                first | refine wpB_skip 7 rfl (by kernel_rfl) (by kernel_rfl) (by kernel_rfl) (by rfl) ?_ | (refine wpB_text 7 (v := ?_) rfl (by kernel_rfl) (by kernel_rfl) (by kernel_rfl) (by rfl) (fun W hW => ?_) ?_; rotate_left; (have k1 := hW; obtain ⟨hc1, hf1⟩ := bcell k1; go_simp; refine comes_v ?_; exact k1))
                (try simp only [Act.put, List.setIfInBounds_toArray, List.set_cons_zero, List.set_cons_succ])
                first | refine wpB_skip 8 rfl (by kernel_rfl) (by kernel_rfl) (by kernel_rfl) (by rfl) ?_ | (refine wpB_text 8 (v := .agg #[.int .i64 e1, .int .i64 e2]) rfl (by kernel_rfl) (by kernel_rfl) (by kernel_rfl) (by rfl) (fun W hW => ?_) ?_; (have k1 := hW; obtain ⟨hc1, hf1⟩ := bcell k1; go_simp; exact comes_c ( KM2.out _) (fun wn hbn => bt_keep' k1 hbn)))
                (try simp only [Act.put, List.setIfInBounds_toArray, List.set_cons_zero, List.set_cons_succ])
                first | refine wpB_skip 9 rfl (by kernel_rfl) (by kernel_rfl) (by kernel_rfl) (by rfl) ?_ | (refine wpB_text 9 (v := .bool true) rfl (by kernel_rfl) (by kernel_rfl) (by kernel_rfl) (by rfl) (fun W hW => ?_) ?_; (have k1 := hW; obtain ⟨hc1, hf1⟩ := bcell k1; go_simp; exact comes_c ( KH1.out _) (fun wn hbn => bt_keep' k1 hbn)))
                (try simp only [Act.put, List.setIfInBounds_toArray, List.set_cons_zero, List.set_cons_succ])
                first | refine wpB_skip 10 rfl (by kernel_rfl) (by kernel_rfl) (by kernel_rfl) (by rfl) ?_ | (refine wpB_text 10 (v := ?_) rfl (by kernel_rfl) (by kernel_rfl) (by kernel_rfl) (by rfl) (fun W hW => ?_) ?_; rotate_left; (have k1 := hW; obtain ⟨hc1, hf1⟩ := bcell k1; go_simp; refine comes_v ?_; exact k1))
                (try simp only [Act.put, List.setIfInBounds_toArray, List.set_cons_zero, List.set_cons_succ])
                first | refine wpB_skip 11 rfl (by kernel_rfl) (by kernel_rfl) (by kernel_rfl) (by rfl) ?_ | (refine wpB_text 11 (v := ?_) rfl (by kernel_rfl) (by kernel_rfl) (by kernel_rfl) (by rfl) (fun W hW => ?_) ?_; rotate_left; (have k1 := hW; obtain ⟨hc1, hf1⟩ := bcell k1; go_simp; refine comes_v ?_; exact k1))
                (try simp only [Act.put, List.setIfInBounds_toArray, List.set_cons_zero, List.set_cons_succ])
                refine wpB_done (by kernel_rfl) ?_ _
                intro W hW; have k1 := hW
                rename World => w5
                have L6 := Lib.hid (L5.out.up k1)
                clear r6 r7 s6 s7 t6 t7 yWd0_0 yWd0_1 k1 L5 KS1 KM2 KH1 KA1
                go_wp2_with fail
                go_roundg (n - (k + 1) - (m + 1))
                case measure => have := HGM.out; omega
                case rel => exact ⟨m + 1, _, rfl, by omega, rfl, by go_num, Lib.hid (by rw [HN2.out, HLL.out]; exact L6.out)⟩
              · have hof : oo = false := by simpa using ho
                subst hof
                have HY2 := Lib.hid (HY1.out (by rw [HC1.out]; rfl))
                clear HC1 HY1 HN1 ho
                refine wp_region_B (fun W => Below Wd.heap.size Wd W) (by kernel_rfl) (by repeat (first | exact Below.refl _ _ | apply Below.drew)) ?_
                first | refine wpB_skip 0 rfl (by kernel_rfl) (by kernel_rfl) (by kernel_rfl) (by rfl) ?_ | (refine wpB_text 0 (v := ?_) rfl (by kernel_rfl) (by kernel_rfl) (by kernel_rfl) (by rfl) (fun W hW => ?_) ?_; rotate_left; (have k1 := hW; obtain ⟨hc1, hf1⟩ := bcell k1; go_simp; refine comes_v ?_; exact k1))
                (try simp only [Act.put, List.setIfInBounds_toArray, List.set_cons_zero, List.set_cons_succ])
                first | refine wpB_skip 1 rfl (by kernel_rfl) (by kernel_rfl) (by kernel_rfl) (by rfl) ?_ | (refine wpB_text 1 (v := ?_) rfl (by kernel_rfl) (by kernel_rfl) (by kernel_rfl) (by rfl) (fun W hW => ?_) ?_; rotate_left; (have k1 := hW; obtain ⟨hc1, hf1⟩ := bcell k1; go_simp; refine comes_v ?_; exact k1))
                (try simp only [Act.put, List.setIfInBounds_toArray, List.set_cons_zero, List.set_cons_succ])
                first | refine wpB_skip 2 rfl (by kernel_rfl) (by kernel_rfl) (by kernel_rfl) (by rfl) ?_ | (refine wpB_text 2 (v := .int .i64 1) rfl (by kernel_rfl) (by kernel_rfl) (by kernel_rfl) (by rfl) (fun W hW => ?_) ?_; (have k1 := hW; obtain ⟨hc1, hf1⟩ := bcell k1; go_simp; exact comes_c ( KS1.out _) (fun wn hbn => bt_keep' k1 hbn)))
                (try simp only [Act.put, List.setIfInBounds_toArray, List.set_cons_zero, List.set_cons_succ])
                first | refine wpB_skip 3 rfl (by kernel_rfl) (by kernel_rfl) (by kernel_rfl) (by rfl) ?_ | (refine wpB_text 3 (v := ?_) rfl (by kernel_rfl) (by kernel_rfl) (by kernel_rfl) (by rfl) (fun W hW => ?_) ?_; rotate_left; (have k1 := hW; obtain ⟨hc1, hf1⟩ := bcell k1; go_simp; refine comes_v ?_; exact k1))
                (try simp only [Act.put, List.setIfInBounds_toArray, List.set_cons_zero, List.set_cons_succ])
                first | refine wpB_skip 4 rfl (by kernel_rfl) (by kernel_rfl) (by kernel_rfl) (by rfl) ?_ | (refine wpB_text 4 (v := ?_) rfl (by kernel_rfl) (by kernel_rfl) (by kernel_rfl) (by rfl) (fun W hW => ?_) ?_; rotate_left; (have k1 := hW; obtain ⟨hc1, hf1⟩ := bcell k1; go_simp; refine comes_v ?_; exact k1))
                (try simp only [Act.put, List.setIfInBounds_toArray, List.set_cons_zero, List.set_cons_succ])
                first | refine wpB_skip 5 rfl (by kernel_rfl) (by kernel_rfl) (by kernel_rfl) (by rfl) ?_ | (refine wpB_text 5 (v := ?_) rfl (by kernel_rfl) (by kernel_rfl) (by kernel_rfl) (by rfl) (fun W hW => ?_) ?_; rotate_left; (have k1 := hW; obtain ⟨hc1, hf1⟩ := bcell k1; go_simp; refine comes_v ?_; exact k1))
                (try simp only [Act.put, List.setIfInBounds_toArray, List.set_cons_zero, List.set_cons_succ])
                first | refine wpB_skip 6 rfl (by kernel_rfl) (by kernel_rfl) (by kernel_rfl) (by rfl) ?_ | (refine wpB_text 6 (v := ?_) rfl (by kernel_rfl) (by kernel_rfl) (by kernel_rfl) (by rfl) (fun W hW => ?_) ?_; rotate_left; (have k1 := hW; obtain ⟨hc1, hf1⟩ := bcell k1; go_simp; refine comes_v ?_; exact k1))
                (try simp only [Act.put, List.setIfInBounds_toArray, List.set_cons_zero, List.set_cons_succ])
                first | refine wpB_skip 7 rfl (by kernel_rfl) (by kernel_rfl) (by kernel_rfl) (by rfl) ?_ | (refine wpB_text 7 (v := ?_) rfl (by kernel_rfl) (by kernel_rfl) (by kernel_rfl) (by rfl) (fun W hW => ?_) ?_; rotate_left; (have k1 := hW; obtain ⟨hc1, hf1⟩ := bcell k1; go_simp; refine comes_v ?_; exact k1))
                (try simp only [Act.put, List.setIfInBounds_toArray, List.set_cons_zero, List.set_cons_succ])
                first | refine wpB_skip 8 rfl (by kernel_rfl) (by kernel_rfl) (by kernel_rfl) (by rfl) ?_ | (refine wpB_text 8 (v := .agg #[.int .i64 e1, .int .i64 e2]) rfl (by kernel_rfl) (by kernel_rfl) (by kernel_rfl) (by rfl) (fun W hW => ?_) ?_; (have k1 := hW; obtain ⟨hc1, hf1⟩ := bcell k1; go_simp; exact comes_c ( KM2.out _) (fun wn hbn => bt_keep' k1 hbn)))
                (try simp only [Act.put, List.setIfInBounds_toArray, List.set_cons_zero, List.set_cons_succ])
                first | refine wpB_skip 9 rfl (by kernel_rfl) (by kernel_rfl) (by kernel_rfl) (by rfl) ?_ | (refine wpB_text 9 (v := .bool false) rfl (by kernel_rfl) (by kernel_rfl) (by kernel_rfl) (by rfl) (fun W hW => ?_) ?_; (have k1 := hW; obtain ⟨hc1, hf1⟩ := bcell k1; go_simp; exact comes_c ( KH1.out _) (fun wn hbn => bt_keep' k1 hbn)))
                (try simp only [Act.put, List.setIfInBounds_toArray, List.set_cons_zero, List.set_cons_succ])
                first | refine wpB_skip 10 rfl (by kernel_rfl) (by kernel_rfl) (by kernel_rfl) (by rfl) ?_ | (refine wpB_text 10 (v := ?_) rfl (by kernel_rfl) (by kernel_rfl) (by kernel_rfl) (by rfl) (fun W hW => ?_) ?_; rotate_left; (have k1 := hW; obtain ⟨hc1, hf1⟩ := bcell k1; go_simp; refine comes_v ?_; exact k1))
                (try simp only [Act.put, List.setIfInBounds_toArray, List.set_cons_zero, List.set_cons_succ])
                first | refine wpB_skip 11 rfl (by kernel_rfl) (by kernel_rfl) (by kernel_rfl) (by rfl) ?_ | (refine wpB_text 11 (v := ?_) rfl (by kernel_rfl) (by kernel_rfl) (by kernel_rfl) (by rfl) (fun W hW => ?_) ?_; rotate_left; (have k1 := hW; obtain ⟨hc1, hf1⟩ := bcell k1; go_simp; refine comes_v ?_; exact k1))
                (try simp only [Act.put, List.setIfInBounds_toArray, List.set_cons_zero, List.set_cons_succ])
                refine wpB_done (by kernel_rfl) ?_ _
                intro W hW; have k1 := hW
                rename World => w5
                have L6 := Lib.hid (L5.out.up k1)
                have r8 := ((bcell k1).1 _ 0 zi5).trans r6
                have r9 := ((bcell k1).1 _ 1 zi5).trans r7
                have s8 := L6.out.box.c0
                have s9 := L6.out.box.c1
                have t8 := ((bcell k1).1 _ 0 zWd0).trans yWd0_0
                have t9 := ((bcell k1).1 _ 1 zWd0).trans yWd0_1
                have zx6 := L6.out.box.hi
                have zi6 := Nat.lt_of_lt_of_le zi5 k1.size
                have zd6 := Nat.lt_of_lt_of_le zWd0 k1.size
                clear r6 r7 s6 s7 t6 t7 yWd0_0 yWd0_1 k1 L5 KS1 KM2 KH1 zx5 zi5 zb5 zWd0
                go_wp2_with fail
                refine wp_region_AP 7 (fun W => Below (w5).heap.size (w5) W) (by kernel_rfl) (by kernel_rfl) (by repeat (first | exact Below.refl _ _ | apply Below.drew)) rfl rfl (by kernel_rfl) (fun _ => by rfl) (by rfl) (fun _ => by rfl) ?_
                (try simp only [Act.put, List.setIfInBounds_toArray, List.set_cons_zero, List.set_cons_succ])
                first | refine wpH_skip (by rfl) ?_ | (refine wpH_text (v := ?_) (by rfl) (fun W k1 => ?_) ?_; rotate_left; (obtain ⟨hc1, hf1⟩ := bcell k1;  go_simp; refine comes_v ?_; exact k1))
                (try simp only [Act.put, List.setIfInBounds_toArray, List.set_cons_zero, List.set_cons_succ])
                first | refine wpH_skip (by rfl) ?_ | (refine wpH_text (v := ?_) (by rfl) (fun W k1 => ?_) ?_; rotate_left; (obtain ⟨hc1, hf1⟩ := bcell k1;  go_simp; refine comes_v ?_; exact k1))
                (try simp only [Act.put, List.setIfInBounds_toArray, List.set_cons_zero, List.set_cons_succ])
                first | refine wpH_skip (by rfl) ?_ | (refine wpH_text (v := ?_) (by rfl) (fun W k1 => ?_) ?_; rotate_left; (obtain ⟨hc1, hf1⟩ := bcell k1;  go_simp; refine comes_v ?_; exact k1))
                (try simp only [Act.put, List.setIfInBounds_toArray, List.set_cons_zero, List.set_cons_succ])
                first | refine wpH_skip (by rfl) ?_ | (refine wpH_text (v := ?_) (by rfl) (fun W k1 => ?_) ?_; rotate_left; (obtain ⟨hc1, hf1⟩ := bcell k1;  go_simp; refine comes_v ?_; exact k1))
                (try simp only [Act.put, List.setIfInBounds_toArray, List.set_cons_zero, List.set_cons_succ])
                first | refine wpH_skip (by rfl) ?_ | (refine wpH_text (v := .int .i64 (al : Int)) (by rfl) (fun W k1 => ?_) ?_; (obtain ⟨hc1, hf1⟩ := bcell k1;  go_simp; exact comes_c ( KA1.out _) (fun wn hbn => k1.trans (hbn.mono k1.size))))
                (try simp only [Act.put, List.setIfInBounds_toArray, List.set_cons_zero, List.set_cons_succ])
                first | refine wpH_skip (by rfl) ?_ | (refine wpH_text (v := ?_) (by rfl) (fun W k1 => ?_) ?_; rotate_left; (obtain ⟨hc1, hf1⟩ := bcell k1;  go_simp; refine comes_v ?_; exact k1))
                (try simp only [Act.put, List.setIfInBounds_toArray, List.set_cons_zero, List.set_cons_succ])
                refine wpH_nil ?_
                intro W k1; obtain ⟨hc1, hf1⟩ := bcell k1
                refine ⟨.slice (some ⟨W.heap.size, 0, none⟩) 1 1, W.alloc (.cells #[.int .i64 d1, .int .i64 d2, .int .i64 (al : Int)] 64), (by go_simp), ?_⟩
                (try simp only [Act.put, List.setIfInBounds_toArray, List.set_cons_zero, List.set_cons_succ])
                have L7 := Lib.hid ((L6.out.up k1).up (Below.alloc (Below.refl _ _) (Nat.le_refl _) (.cells #[.int .i64 d1, .int .i64 d2, .int .i64 (al : Int)] 64)))
                have z7 := L7.out.bel.size
                have hr7 := L7.out.row
                unfold RowT at hr7
                have HR7 := Lib.hid hr7
                clear hc1 hf1 hr7 L6 r8 r9 s8 s9 t8 t9 k1 KA1
                go_wp2_with (at_builtin; refine wpList_append_own_at _ rfl (.tmp 43) (.tmp 50) 60 rfl w1.heap.size 64 i0 (.agg #[.int .i64 0, .int .i64 0, .int .i64 0]) 3 24 Try.underlying60 HI.out.1 HI.out.2.1 HI.out.2.2.1 HI.out.2.2.2 rfl (by decide) u LL.length (flat3 LL) rfl HR7.out ⟨W.heap.size, 0, none⟩ 1 1 [.int .i64 d1, .int .i64 d2, .int .i64 (al : Int)] rfl rfl (three_cells (by go_simp) (by go_simp) (by go_simp)) (three_one _ _ _) (by unfold maxLen; omega) (by omega) z7 ?_)
                intro v' w9 own9 hgr9 _ hat
                have L9 := Lib.hid (L7.out.push (p := (d1, d2, (al : Int))) own9 hgr9 (by simpa using hat))
                clear own9 hgr9 hat HR7 L7
                go_wp2_with fail
                go_roundg (n - (k + 1) - (m + 1))
                case measure => have := HGM.out; omega
                case rel => exact ⟨m + 1, _, rfl, by omega, rfl, by go_num, Lib.hid (by rw [HY2.out, ← List.append_assoc, HLL.out]; exact L9.out)⟩
            · have HN2 := Lib.hid (HN1.out (by rw [HC1.out]; simp [hs]))
              have hs1 : decide (sN = 1) = false := by simpa using hs
              have hs2 : (sN == (1 : Int)) = false := by simpa using hs
              clear HC1 HY1 HN1
              refine wp_region_B (fun W => Below Wd.heap.size Wd W) (by kernel_rfl) (by repeat (first | exact Below.refl _ _ | apply Below.drew)) ?_
              first | refine wpB_skip 0 rfl (by kernel_rfl) (by kernel_rfl) (by kernel_rfl) (by rfl) ?_ | (refine wpB_text 0 (v := ?_) rfl (by kernel_rfl) (by kernel_rfl) (by kernel_rfl) (by rfl) (fun W hW => ?_) ?_; rotate_left; (have k1 := hW; obtain ⟨hc1, hf1⟩ := bcell k1; go_simp; refine comes_v ?_; exact k1))
              (try simp only [Act.put, List.setIfInBounds_toArray, List.set_cons_zero, List.set_cons_succ])
              first | refine wpB_skip 1 rfl (by kernel_rfl) (by kernel_rfl) (by kernel_rfl) (by rfl) ?_ | (refine wpB_text 1 (v := ?_) rfl (by kernel_rfl) (by kernel_rfl) (by kernel_rfl) (by rfl) (fun W hW => ?_) ?_; rotate_left; (have k1 := hW; obtain ⟨hc1, hf1⟩ := bcell k1; go_simp; refine comes_v ?_; exact k1))
              (try simp only [Act.put, List.setIfInBounds_toArray, List.set_cons_zero, List.set_cons_succ])
              first | refine wpB_skip 2 rfl (by kernel_rfl) (by kernel_rfl) (by kernel_rfl) (by rfl) ?_ | (refine wpB_text 2 (v := .int .i64 sN) rfl (by kernel_rfl) (by kernel_rfl) (by kernel_rfl) (by rfl) (fun W hW => ?_) ?_; (have k1 := hW; obtain ⟨hc1, hf1⟩ := bcell k1; go_simp; exact comes_c ( KS1.out _) (fun wn hbn => bt_keep' k1 hbn)))
              (try simp only [Act.put, List.setIfInBounds_toArray, List.set_cons_zero, List.set_cons_succ])
              first | refine wpB_skip 3 rfl (by kernel_rfl) (by kernel_rfl) (by kernel_rfl) (by rfl) ?_ | (refine wpB_text 3 (v := ?_) rfl (by kernel_rfl) (by kernel_rfl) (by kernel_rfl) (by rfl) (fun W hW => ?_) ?_; rotate_left; (have k1 := hW; obtain ⟨hc1, hf1⟩ := bcell k1; go_simp; refine comes_v ?_; exact k1))
              (try simp only [Act.put, List.setIfInBounds_toArray, List.set_cons_zero, List.set_cons_succ])
              first | refine wpB_skip 4 rfl (by kernel_rfl) (by kernel_rfl) (by kernel_rfl) (by rfl) ?_ | (refine wpB_text 4 (v := ?_) rfl (by kernel_rfl) (by kernel_rfl) (by kernel_rfl) (by rfl) (fun W hW => ?_) ?_; rotate_left; (have k1 := hW; obtain ⟨hc1, hf1⟩ := bcell k1; go_simp; refine comes_v ?_; exact k1))
              (try simp only [Act.put, List.setIfInBounds_toArray, List.set_cons_zero, List.set_cons_succ])
              first | refine wpB_skip 5 rfl (by kernel_rfl) (by kernel_rfl) (by kernel_rfl) (by rfl) ?_ | (refine wpB_text 5 (v := ?_) rfl (by kernel_rfl) (by kernel_rfl) (by kernel_rfl) (by rfl) (fun W hW => ?_) ?_; rotate_left; (have k1 := hW; obtain ⟨hc1, hf1⟩ := bcell k1; go_simp; refine comes_v ?_; exact k1))
              (try simp only [Act.put, List.setIfInBounds_toArray, List.set_cons_zero, List.set_cons_succ])
              first | refine wpB_skip 6 rfl (by kernel_rfl) (by kernel_rfl) (by kernel_rfl) (by rfl) ?_ | (refine wpB_text 6 (v := ?_) rfl (by kernel_rfl) (by kernel_rfl) (by kernel_rfl) (by rfl) (fun W hW => ?_) ?_; rotate_left; (have k1 := hW; obtain ⟨hc1, hf1⟩ := bcell k1; go_simp; refine comes_v ?_; exact k1))
              (try simp only [Act.put, List.setIfInBounds_toArray, List.set_cons_zero, List.set_cons_succ])
              first | refine wpB_skip 7 rfl (by kernel_rfl) (by kernel_rfl) (by kernel_rfl) (by rfl) ?_ | (refine wpB_text 7 (v := ?_) rfl (by kernel_rfl) (by kernel_rfl) (by kernel_rfl) (by rfl) (fun W hW => ?_) ?_; rotate_left; (have k1 := hW; obtain ⟨hc1, hf1⟩ := bcell k1; go_simp; refine comes_v ?_; exact k1))
              (try simp only [Act.put, List.setIfInBounds_toArray, List.set_cons_zero, List.set_cons_succ])
              first | refine wpB_skip 8 rfl (by kernel_rfl) (by kernel_rfl) (by kernel_rfl) (by rfl) ?_ | (refine wpB_text 8 (v := ?_) rfl (by kernel_rfl) (by kernel_rfl) (by kernel_rfl) (by rfl) (fun W hW => ?_) ?_; rotate_left; (have k1 := hW; obtain ⟨hc1, hf1⟩ := bcell k1; go_simp; refine comes_v ?_; exact k1))
              (try simp only [Act.put, List.setIfInBounds_toArray, List.set_cons_zero, List.set_cons_succ])
              first | refine wpB_skip 9 rfl (by kernel_rfl) (by kernel_rfl) (by kernel_rfl) (by rfl) ?_ | (refine wpB_text 9 (v := ?_) rfl (by kernel_rfl) (by kernel_rfl) (by kernel_rfl) (by rfl) (fun W hW => ?_) ?_; rotate_left; (have k1 := hW; obtain ⟨hc1, hf1⟩ := bcell k1; go_simp; refine comes_v ?_; exact k1))
              (try simp only [Act.put, List.setIfInBounds_toArray, List.set_cons_zero, List.set_cons_succ])
              first | refine wpB_skip 10 rfl (by kernel_rfl) (by kernel_rfl) (by kernel_rfl) (by rfl) ?_ | (refine wpB_text 10 (v := ?_) rfl (by kernel_rfl) (by kernel_rfl) (by kernel_rfl) (by rfl) (fun W hW => ?_) ?_; rotate_left; (have k1 := hW; obtain ⟨hc1, hf1⟩ := bcell k1; go_simp; refine comes_v ?_; exact k1))
              (try simp only [Act.put, List.setIfInBounds_toArray, List.set_cons_zero, List.set_cons_succ])
              first | refine wpB_skip 11 rfl (by kernel_rfl) (by kernel_rfl) (by kernel_rfl) (by rfl) ?_ | (refine wpB_text 11 (v := ?_) rfl (by kernel_rfl) (by kernel_rfl) (by kernel_rfl) (by rfl) (fun W hW => ?_) ?_; rotate_left; (have k1 := hW; obtain ⟨hc1, hf1⟩ := bcell k1; go_simp; refine comes_v ?_; exact k1))
              (try simp only [Act.put, List.setIfInBounds_toArray, List.set_cons_zero, List.set_cons_succ])
              refine wpB_done (by kernel_rfl) ?_ _
              intro W hW; have k1 := hW
              rename World => w5
              have L6 := Lib.hid (L5.out.up k1)
              clear r6 r7 s6 s7 t6 t7 yWd0_0 yWd0_1 k1 L5 KS1 KM2 KH1 KA1
              go_wp2_with fail
              go_roundg (n - (k + 1) - (m + 1))
              case measure => have := HGM.out; omega
              case rel => exact ⟨m + 1, _, rfl, by omega, rfl, by go_num, Lib.hid (by rw [HN2.out, HLL.out]; exact L6.out)⟩
          · have hmn : m = n - (k + 1) := by omega
            have HSe : Hid (SS (k + 1) = SS k ++ RR k m) := Lib.hid (by rw [HSk.out, hmn, show n - 1 - k = n - (k + 1) by omega])
            have hmi : ¬ (m : Int) < (n : Int) - ((k : Int) + 1) := by omega
            clear hmn
            go_wp2_with fail
            go_roundg (n - (k + 1))
            case measure => have := HGK.out; omega
            case rel => exact ⟨k + 1, _, rfl, by omega, rfl, by go_num, hL.out.bel, Lib.hid (by rw [HSe.out]; exact hL.out.row)⟩
    · obtain rfl : k = n := by omega
      have HF : Hid (RetT w (SS k) (.returned v) wo) := Lib.hid ⟨v, rfl, BB.trans (hB.mono BB.size), rowT_base hr.out BB.size⟩
      go_wp2_with fail
      go_ret
      exact HF.out
end Go.Proofs.Ytmhdbodmpohdnaa
