/- rings: the points that numbers make; the program's pegs -/
import Derived.Test.YtchdpcndhgjkpaaRi0
import Derived.Test.YtchdpcndhgjkpaaLa
import Derived.Test.YtchdpcndhgjkpaaTb01
import Derived.Test.YtchdpcndhgjkpaaTbq
import Derived.Test.YtchdpcndhgjkpaaRa
import Derived.StillTailTactics
import Derived.Maps.AppendAt
namespace Go.Proofs.Ytchdpcndhgjkpaa
open Go.ChangeShapes Go.WideShapes Go.ChangeAt Go.RowKit Go.Joins
set_option linter.unusedVariables false
set_option linter.unusedSimpArgs false
set_option maxRecDepth 4000
/-- the points that c numbers make -/
def dmk (F : Nat → Int) (c : Nat) : Nat → Int × Int
  | 0 => (1, 0)
  | 1 => (0, 1)
  | i + 2 => (F ((i + 1) % c) * (dmk F c (i + 1)).1 - (dmk F c i).1, F ((i + 1) % c) * (dmk F c (i + 1)).2 - (dmk F c i).2)
def Six (F : Nat → Int) (c : Nat) : Prop := ∀ i, i < c → -6 ≤ F i ∧ F i ≤ 6
theorem six_mul {k b m : Int} (hk : -6 ≤ k ∧ k ≤ 6) (hb : -m ≤ b ∧ b ≤ m) (hm : 0 ≤ m) : -(6 * m) ≤ k * b ∧ k * b ≤ 6 * m := by
  have h : k = -6 ∨ k = -5 ∨ k = -4 ∨ k = -3 ∨ k = -2 ∨ k = -1 ∨ k = 0 ∨ k = 1 ∨ k = 2 ∨ k = 3 ∨ k = 4 ∨ k = 5 ∨ k = 6 := by omega
  rcases h with rfl | rfl | rfl | rfl | rfl | rfl | rfl | rfl | rfl | rfl | rfl | rfl | rfl
  all_goals omega
theorem dmk_b {F : Nat → Int} {c : Nat} (h : Six F c) (hc : 0 < c) : ∀ i : Nat, ∃ m M : Int, 0 ≤ m ∧ 0 ≤ M ∧ m = 7 ^ i ∧ M = 7 ^ (i + 1) ∧ (-m ≤ (dmk F c i).1 ∧ (dmk F c i).1 ≤ m) ∧ (-m ≤ (dmk F c i).2 ∧ (dmk F c i).2 ≤ m) ∧ (-M ≤ (dmk F c (i + 1)).1 ∧ (dmk F c (i + 1)).1 ≤ M) ∧ (-M ≤ (dmk F c (i + 1)).2 ∧ (dmk F c (i + 1)).2 ≤ M) := by
  intro i
  induction i with
  | zero => exact ⟨1, 7, by decide, by decide, by decide, by decide, by simp [dmk], by simp [dmk], by simp [dmk], by simp [dmk]⟩
  | succ i ih =>
    obtain ⟨m, M, h0, h1, e1, e2, b1, b2, b3, b4⟩ := ih
    have e3 : (7 : Int) ^ (i + 1 + 1) = 7 * M := by rw [e2, Int.pow_succ (7 : Int) (i + 1), Int.mul_comm]
    have eM : M = 7 * m := by rw [e2, e1, Int.pow_succ, Int.mul_comm]
    have hk := h ((i + 1) % c) (Nat.mod_lt _ hc)
    have k1 := six_mul hk b3 h1
    have k2 := six_mul hk b4 h1
    refine ⟨M, 7 * M, h1, by omega, e2, e3.symm, b3, b4, ?_, ?_⟩
    · show -(7 * M) ≤ F ((i + 1) % c) * (dmk F c (i + 1)).1 - (dmk F c i).1 ∧ F ((i + 1) % c) * (dmk F c (i + 1)).1 - (dmk F c i).1 ≤ 7 * M
      omega
    · show -(7 * M) ≤ F ((i + 1) % c) * (dmk F c (i + 1)).2 - (dmk F c i).2 ∧ F ((i + 1) % c) * (dmk F c (i + 1)).2 - (dmk F c i).2 ≤ 7 * M
      omega
theorem dmk_bd {F : Nat → Int} {c : Nat} (h : Six F c) (hc : 0 < c) (i : Nat) (hi : i ≤ 10) : (-282475249 ≤ (dmk F c i).1 ∧ (dmk F c i).1 ≤ 282475249) ∧ (-282475249 ≤ (dmk F c i).2 ∧ (dmk F c i).2 ≤ 282475249) := by
  obtain ⟨m, M, h0, h1, e1, e2, b1, b2, _, _⟩ := dmk_b h hc i
  have e3 : (7 : Int) ^ i = ((7 ^ i : Nat) : Int) := by simp
  have : 7 ^ i ≤ 7 ^ 10 := Nat.pow_le_pow_right (by decide) hi
  have e4 : (7 : Nat) ^ 10 = 282475249 := by decide
  rw [e3] at e1
  omega
theorem dmk_succ (F : Nat → Int) (c i : Nat) : dmk F c (i + 2) = ((dmk F c (i + 1)).1 * F ((i + 1) % c) - (dmk F c i).1, (dmk F c (i + 1)).2 * F ((i + 1) % c) - (dmk F c i).2) := by
  show (F ((i + 1) % c) * (dmk F c (i + 1)).1 - (dmk F c i).1, F ((i + 1) % c) * (dmk F c (i + 1)).2 - (dmk F c i).2) = _
  rw [Int.mul_comm, Int.mul_comm (F ((i + 1) % c)) (dmk F c (i + 1)).2]
theorem row_two (w : World) (base : Nat) (F : Nat → Int) (c : Nat) (hb : base ≤ w.heap.size) : Row (w.alloc (.cells #[.int .i64 1, .int .i64 0, .int .i64 0, .int .i64 1] 49)) base (.slice (some ⟨w.heap.size, 0, none⟩) 2 2) (dmk F c) 2 :=
  ⟨rfl, .inr ⟨w.heap.size, 2, _, rfl, hb, heap_alloc_new w _, Nat.le_refl _, by unfold maxLen; omega, rfl, rfl⟩⟩
/-- a row's points lie in its block -/
theorem row_cells {w : World} {base : Nat} {v : Value} {f : Nat → Int × Int} {k : Nat} (h : Row w base v f k) (hk : 0 < k) : ∃ g cap, v = .slice (some ⟨g, 0, none⟩) k cap ∧ g < w.heap.size ∧ ∀ i, i < k → w.cell? ⟨g, i * 2, none⟩ = some (.int .i64 (f i).1) ∧ w.cell? ⟨g, i * 2 + 1, none⟩ = some (.int .i64 (f i).2) := by
  have h' := h
  obtain ⟨h1, h2⟩ := h
  rcases h2 with ⟨_, h0⟩ | ⟨g, cap, cur, hv, hg, hh, hc, hm, hs, ht⟩
  · omega
  · obtain ⟨A, c, e, q1, q2, q3⟩ := row_out h'
    have e2 := hv.symm.trans e
    injection e2 with e3 e4 e5
    obtain ⟨b, off, eA, z1, z2, z3⟩ := q3 hk
    rw [eA] at e3
    injection e3 with e6
    injection e6 with e7 e8
    subst e7
    subst e8
    refine ⟨g, cap, hv, z2, fun i hi => ?_⟩
    have hz := z3 i hi
    rw [Nat.zero_add] at hz
    exact hz.1
set_option maxHeartbeats 2000000 in
theorem pegs_any (F : Nat → Int) (c : Nat) (w : World) (h3 : 3 ≤ c) (hc : c ≤ 9) (h6 : Six F c) :
    Calls Try.prog 69 #[rv F c] w fun e w' => ∃ v, e = .returned v ∧ Below w.heap.size w w' ∧ Row w' w.heap.size v (dmk F c) (c + 2) := by
  have hN := Lib.hid (rg_new w F c)
  have hB := Lib.hid (Below.alloc (Below.refl w.heap.size w) (Nat.le_refl _) (.cells #[.int .i64 (F 0), .int .i64 (F 1), .int .i64 (F 2), .int .i64 (F 3), .int .i64 (F 4), .int .i64 (F 5), .int .i64 (F 6), .int .i64 (F 7), .int .i64 (F 8), .int .i64 c] 62))
  have HR2 := Lib.hid (fun w1 => row_two w1 w.heap.size F c)
  have HD := Lib.hid (fun i hi => dmk_bd h6 (by omega) i hi)
  have H6 := Lib.hid h6
  have HS := Lib.hid (dmk_succ F c)
  obtain ⟨i0, hi0, hz0, hz1, hz2⟩ := info_parts peg_info
  have HI := Lib.hid (And.intro hi0 (And.intro hz0 (And.intro hz1 hz2)))
  clear hi0 hz0 hz1 hz2 h6
  unfold rv
  go_enter Try.func69, Try.ntmps69
  go_wp2_with fail
  have hB0 := hB.out
  have hN0 := hN.out
  have e1 : (w.alloc (.cells #[.int .i64 (F 0), .int .i64 (F 1), .int .i64 (F 2), .int .i64 (F 3), .int .i64 (F 4), .int .i64 (F 5), .int .i64 (F 6), .int .i64 (F 7), .int .i64 (F 8), .int .i64 c] 62)).heap.size = w.heap.size + 1 := by simp
  clear hN hB
  generalize (w.alloc (.cells #[.int .i64 (F 0), .int .i64 (F 1), .int .i64 (F 2), .int .i64 (F 3), .int .i64 (F 4), .int .i64 (F 5), .int .i64 (F 6), .int .i64 (F 7), .int .i64 (F 8), .int .i64 c] 62)) = w1 at *
  have hz1 := hB0.size
  have R2 := Lib.hid (HR2.out w1 hz1)
  have hB2 := Below.alloc hB0 hz1 (.cells #[.int .i64 1, .int .i64 0, .int .i64 0, .int .i64 1] 49)
  have hN2 := rg_below hN0 (Below.alloc (Below.refl _ _) (Nat.le_refl _) (.cells #[.int .i64 1, .int .i64 0, .int .i64 0, .int .i64 1] 49))
  have A2 : Hid (∀ r, (Value.slice (some ⟨w1.heap.size, 0, none⟩) 2 2).ownBlock = some r → r ≠ w.heap.size) := Lib.hid (fun r e => by
    have e' : w1.heap.size = r := by simpa [Value.ownBlock] using e
    have := rg_z hN0
    omega)
  obtain ⟨g, hg⟩ : ∃ g, g = w.heap.size := ⟨_, rfl⟩
  rw [← hg] at hN2 A2 e1 ⊢
  rw [e1] at R2 A2
  clear hg e1
  generalize (w1.alloc (.cells #[.int .i64 1, .int .i64 0, .int .i64 0, .int .i64 1] 49)) = w2 at *
  have N2 := Lib.hid hN2
  clear hB0 hN0 HR2 hN2
  go_loopg [3, 4] c (fun gg s x wr => ∃ (j : Nat) (v : Value), v = s ∧ j ≤ c ∧ gg = c - j ∧ x = .int .i64 ((j + 1 : Nat) : Int) ∧ Below w.heap.size w wr ∧ Hid (Row wr w.heap.size v (dmk F c) (j + 2)) ∧ Hid (Rg wr g F c) ∧ Hid (∀ r, v.ownBlock = some r → r ≠ g))
  case atStart => exact ⟨0, _, rfl, Nat.zero_le _, rfl, rfl, hB2, R2, N2, A2⟩
  case round =>
    clear hB2 R2 N2 A2
    obtain ⟨j, v, rfl, hj, hgg, rfl, hB, hr, hN, hA⟩ := hrel
    rename World => wi
    have HGK := Lib.hid hgg
    clear hgg
    have x9 := rg_count hN.out
    have zg := rg_z hN.out
    by_cases hlt : j < c
    · obtain ⟨gv, cap, rfl, hgv, hcell⟩ := row_cells hr.out (by omega)
      have m1 : (j + 1) % c < c := Nat.mod_lt _ (by omega)
      have x0 := rg_cell hN.out ((j + 1) % c) (by omega)
      obtain ⟨y0, y1⟩ := hcell j (by omega)
      obtain ⟨y2, y3⟩ := hcell (j + 1) (by omega)
      have b0 := HD.out j (by omega)
      have b1 := HD.out (j + 1) (by omega)
      have b6 := H6.out ((j + 1) % c) m1
      have hS := HS.out j
      obtain ⟨p1, p2, hp⟩ : ∃ p1 p2, dmk F c j = (p1, p2) := ⟨_, _, rfl⟩
      obtain ⟨q1, q2, hq⟩ : ∃ q1 q2, dmk F c (j + 1) = (q1, q2) := ⟨_, _, rfl⟩
      rw [hp] at y0 y1 b0 hS
      rw [hq] at y2 y3 b1 hS
      simp only [] at y0 y1 y2 y3 b0 b1 hS
      generalize F ((j + 1) % c) = k at x0 b6 hS
      have k1 := six_mul b6 b1.1 (by omega)
      have k2 := six_mul b6 b1.2 (by omega)
      rw [Int.mul_comm k q1] at k1
      rw [Int.mul_comm k q2] at k2
      have KM := Lib.hid (fun W => times_any q1 q2 k W (by omega) (by omega))
      have KS := Lib.hid (fun W => minus_any (q1 * k) (q2 * k) p1 p2 W (by unfold Mid; omega) (by unfold Mid; omega) (by unfold Mid; omega) (by unfold Mid; omega))
      have HSK := Lib.hid hS
      generalize q1 * k = t1 at *
      generalize q2 * k = t2 at *
      generalize t1 - p1 = s1 at *
      generalize t2 - p2 = s2 at *
      have i2 : ¬ c = 0 := by omega
      have i3 : (0 : Int) ≤ ((j : Int) + 1) % (c : Int) := Int.emod_nonneg _ (by omega)
      have i4 : ((j : Int) + 1) % (c : Int) < (c : Int) := Int.emod_lt_of_pos _ (by omega)
      have i5 : ((j : Int) + 1).tmod (c : Int) = ((j : Int) + 1) % (c : Int) := Int.tmod_eq_emod_of_nonneg (by omega)
      have i6 : (((j : Int) + 1) % (c : Int)).toNat = (j + 1) % c := by rw [show ((j : Int) + 1) % (c : Int) = (((j + 1) % c : Nat) : Int) by simp]; exact Int.toNat_natCast _
      have i7 : ((j : Int) + 1 - 1) = (j : Int) := by omega
      have i8 : ((j : Int) + 1).toNat = j + 1 := by omega
      have i9 : IntKind.i64.wrap (j : Int) = (j : Int) := IntWalk.i64_in _ (by omega)
      have j0 : ((j : Int) + 1) % (c : Int) < 9 := by omega
      have j1 : (j : Int) < (j : Int) + 2 := by omega
      clear hcell hp hq hS k1 k2 b0 b1 b6
      go_wp2_with fail
      refine wp_region_AP 19 (fun W => Below (wi).heap.size (wi) W) (by kernel_rfl) (by kernel_rfl) (by repeat (first | exact Below.refl _ _ | apply Below.drew)) rfl rfl (by kernel_rfl) (fun _ => by rfl) (by rfl) (fun _ => by rfl) ?_
      (try simp only [Act.put, List.setIfInBounds_toArray, List.set_cons_zero, List.set_cons_succ])
      first | refine wpH_skip (by rfl) ?_ | (refine wpH_text (v := ?_) (by rfl) (fun W k1 => ?_) ?_; rotate_left; (obtain ⟨hc1, hf1⟩ := bcell k1;  go_simp; refine comes_v ?_; exact k1))
      (try simp only [Act.put, List.setIfInBounds_toArray, List.set_cons_zero, List.set_cons_succ])
      first | refine wpH_skip (by rfl) ?_ | (refine wpH_text (v := ?_) (by rfl) (fun W k1 => ?_) ?_; rotate_left; (obtain ⟨hc1, hf1⟩ := bcell k1;  go_simp; refine comes_v ?_; exact k1))
      (try simp only [Act.put, List.setIfInBounds_toArray, List.set_cons_zero, List.set_cons_succ])
      first | refine wpH_skip (by rfl) ?_ | (refine wpH_text (v := ?_) (by rfl) (fun W k1 => ?_) ?_; rotate_left; (obtain ⟨hc1, hf1⟩ := bcell k1;  go_simp; refine comes_v ?_; exact k1))
      (try simp only [Act.put, List.setIfInBounds_toArray, List.set_cons_zero, List.set_cons_succ])
      first | refine wpH_skip (by rfl) ?_ | (refine wpH_text (v := ?_) (by rfl) (fun W k1 => ?_) ?_; rotate_left; (obtain ⟨hc1, hf1⟩ := bcell k1;  go_simp; refine comes_v ?_; exact k1))
      (try simp only [Act.put, List.setIfInBounds_toArray, List.set_cons_zero, List.set_cons_succ])
      first | refine wpH_skip (by rfl) ?_ | (refine wpH_text (v := ?_) (by rfl) (fun W k1 => ?_) ?_; rotate_left; (obtain ⟨hc1, hf1⟩ := bcell k1;  go_simp; refine comes_v ?_; exact k1))
      (try simp only [Act.put, List.setIfInBounds_toArray, List.set_cons_zero, List.set_cons_succ])
      first | refine wpH_skip (by rfl) ?_ | (refine wpH_text (v := ?_) (by rfl) (fun W k1 => ?_) ?_; rotate_left; (obtain ⟨hc1, hf1⟩ := bcell k1;  go_simp; refine comes_v ?_; exact k1))
      (try simp only [Act.put, List.setIfInBounds_toArray, List.set_cons_zero, List.set_cons_succ])
      first | refine wpH_skip (by rfl) ?_ | (refine wpH_text (v := ?_) (by rfl) (fun W k1 => ?_) ?_; rotate_left; (obtain ⟨hc1, hf1⟩ := bcell k1;  go_simp; refine comes_v ?_; exact k1))
      (try simp only [Act.put, List.setIfInBounds_toArray, List.set_cons_zero, List.set_cons_succ])
      first | refine wpH_skip (by rfl) ?_ | (refine wpH_text (v := ?_) (by rfl) (fun W k1 => ?_) ?_; rotate_left; (obtain ⟨hc1, hf1⟩ := bcell k1;  go_simp; refine comes_v ?_; exact k1))
      (try simp only [Act.put, List.setIfInBounds_toArray, List.set_cons_zero, List.set_cons_succ])
      first | refine wpH_skip (by rfl) ?_ | (refine wpH_text (v := ?_) (by rfl) (fun W k1 => ?_) ?_; rotate_left; (obtain ⟨hc1, hf1⟩ := bcell k1;  go_simp; refine comes_v ?_; exact k1))
      (try simp only [Act.put, List.setIfInBounds_toArray, List.set_cons_zero, List.set_cons_succ])
      first | refine wpH_skip (by rfl) ?_ | (refine wpH_text (v := ?_) (by rfl) (fun W k1 => ?_) ?_; rotate_left; (obtain ⟨hc1, hf1⟩ := bcell k1;  go_simp; refine comes_v ?_; exact k1))
      (try simp only [Act.put, List.setIfInBounds_toArray, List.set_cons_zero, List.set_cons_succ])
      first | refine wpH_skip (by rfl) ?_ | (refine wpH_text (v := ?_) (by rfl) (fun W k1 => ?_) ?_; rotate_left; (obtain ⟨hc1, hf1⟩ := bcell k1;  go_simp; refine comes_v ?_; exact k1))
      (try simp only [Act.put, List.setIfInBounds_toArray, List.set_cons_zero, List.set_cons_succ])
      first | refine wpH_skip (by rfl) ?_ | (refine wpH_text (v := .agg #[.int .i64 t1, .int .i64 t2]) (by rfl) (fun W k1 => ?_) ?_; (obtain ⟨hc1, hf1⟩ := bcell k1;  go_simp; exact comes_c ( KM.out _) (fun wn hbn => k1.trans (hbn.mono k1.size))))
      (try simp only [Act.put, List.setIfInBounds_toArray, List.set_cons_zero, List.set_cons_succ])
      first | refine wpH_skip (by rfl) ?_ | (refine wpH_text (v := ?_) (by rfl) (fun W k1 => ?_) ?_; rotate_left; (obtain ⟨hc1, hf1⟩ := bcell k1;  go_simp; refine comes_v ?_; exact k1))
      (try simp only [Act.put, List.setIfInBounds_toArray, List.set_cons_zero, List.set_cons_succ])
      first | refine wpH_skip (by rfl) ?_ | (refine wpH_text (v := ?_) (by rfl) (fun W k1 => ?_) ?_; rotate_left; (obtain ⟨hc1, hf1⟩ := bcell k1;  go_simp; refine comes_v ?_; exact k1))
      (try simp only [Act.put, List.setIfInBounds_toArray, List.set_cons_zero, List.set_cons_succ])
      first | refine wpH_skip (by rfl) ?_ | (refine wpH_text (v := ?_) (by rfl) (fun W k1 => ?_) ?_; rotate_left; (obtain ⟨hc1, hf1⟩ := bcell k1;  go_simp; refine comes_v ?_; exact k1))
      (try simp only [Act.put, List.setIfInBounds_toArray, List.set_cons_zero, List.set_cons_succ])
      first | refine wpH_skip (by rfl) ?_ | (refine wpH_text (v := ?_) (by rfl) (fun W k1 => ?_) ?_; rotate_left; (obtain ⟨hc1, hf1⟩ := bcell k1;  go_simp; refine comes_v ?_; exact k1))
      (try simp only [Act.put, List.setIfInBounds_toArray, List.set_cons_zero, List.set_cons_succ])
      first | refine wpH_skip (by rfl) ?_ | (refine wpH_text (v := ?_) (by rfl) (fun W k1 => ?_) ?_; rotate_left; (obtain ⟨hc1, hf1⟩ := bcell k1;  go_simp; refine comes_v ?_; exact k1))
      (try simp only [Act.put, List.setIfInBounds_toArray, List.set_cons_zero, List.set_cons_succ])
      first | refine wpH_skip (by rfl) ?_ | (refine wpH_text (v := .agg #[.int .i64 s1, .int .i64 s2]) (by rfl) (fun W k1 => ?_) ?_; (obtain ⟨hc1, hf1⟩ := bcell k1;  go_simp; exact comes_c ( KS.out _) (fun wn hbn => k1.trans (hbn.mono k1.size))))
      (try simp only [Act.put, List.setIfInBounds_toArray, List.set_cons_zero, List.set_cons_succ])
      refine wpH_nil ?_
      intro W k1; obtain ⟨hc1, hf1⟩ := bcell k1
      refine ⟨.slice (some ⟨W.heap.size, 0, none⟩) 1 1, W.alloc (.cells #[.int .i64 s1, .int .i64 s2] 49), (by go_simp), ?_⟩
      (try simp only [Act.put, List.setIfInBounds_toArray, List.set_cons_zero, List.set_cons_succ])
      have B1 := hB.trans (k1.mono hB.size)
      have R1 := row_below hr.out k1 (Nat.le_refl _)
      have RA := Lib.hid (row_alloc R1 (.cells #[.int .i64 s1, .int .i64 s2] 49))
      have BA := Lib.hid (Below.alloc B1 B1.size (.cells #[.int .i64 s1, .int .i64 s2] 49))
      have N1 := rg_below hN.out k1
      have zn := rg_z N1
      have NA := Lib.hid (rg_below N1 (Below.alloc (Below.refl _ _) (Nat.le_refl _) (.cells #[.int .i64 s1, .int .i64 s2] 49)))
      have hz1 := B1.size
      clear R1 B1 hc1 hf1 hr hN x0 x9 y0 y1 y2 y3 hgv zg N1
      go_wp2_with (at_builtin; go_loud (refine wpList_append_own_at _ rfl (.tmp 14) (.tmp 33) 26 rfl w.heap.size 49 i0 (.agg #[.int .i64 0, .int .i64 0]) 2 16 Try.underlying26 HI.out.1 HI.out.2.1 HI.out.2.2.1 HI.out.2.2.2 rfl (by decide) _ (j + 2) (flat (firsts (dmk F c) (j + 2))) rfl RA.out ⟨W.heap.size, 0, none⟩ 1 1 [.int .i64 s1, .int .i64 s2] rfl rfl (two_cells (by go_simp) (by go_simp)) (two_one _ _) (by unfold maxLen; omega) (by omega) (by simp; omega) ?_))
      intro v' w9 hown hgr _ hat
      have za := rg_z NA.out
      have N9 : Hid (Rg w9 g F c) := Lib.hid ⟨(hgr.block g za (fun e => hA.out g e.symm rfl)).trans NA.out.h⟩
      have A9 : Hid (∀ r, v'.ownBlock = some r → r ≠ g) := Lib.hid (fun r e => by
        rcases hat with h | h
        · exact hA.out r (h.symm.trans e)
        · have e' := Option.some.inj (h.symm.trans e); intro e2; omega)
      have RB := row_push (f := dmk F c) (k := j + 2) BA.out RA.out (by rw [HSK.out]; exact hown) hgr
      have R9 := Lib.hid RB.1
      have B9 := RB.2
      clear RB hown hgr hat BA RA NA za zn hA HSK
      go_wp2_with fail
      go_roundg (c - (j + 1))
      case measure => have := HGK.out; omega
      case rel => exact ⟨j + 1, _, rfl, by omega, rfl, by go_num, B9, R9, N9, A9⟩
    · obtain rfl : j = c := by omega
      have R9 := Lib.hid hr.out
      clear hr hN hA
      go_wp2_with fail
      go_ret
      exact ⟨v, rfl, hB, R9.out⟩
end Go.Proofs.Ytchdpcndhgjkpaa
