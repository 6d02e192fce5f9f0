/- joined: Zx Sb Gm Qg Zj -/
import Derived.Test.YtjkfdcjfoliboaaZAroundOf4
import Derived.Maps.AppendAt
/- contract: the points of whole numbers on the lines, the model -/
namespace Go.Proofs.Ytjkfdcjfoliboaa
open Go.ChangeShapes Go.WideShapes Go.ChangeAt Go.RowKit Go.Joins
set_option linter.unusedVariables false
set_option linter.unusedSimpArgs false
set_option maxRecDepth 4000
/-- a point's box -/
structure Pbx (w : World) (g : Nat) (a b : Int) : Prop where
  h : w.heap[g]? = some (.cells #[.int .i64 a, .int .i64 b] 34 (0, 0))
theorem pbx_z {w : World} {g : Nat} {a b : Int} (c : Pbx w g a b) : g < w.heap.size := (Array.getElem?_eq_some_iff.1 c.h).1
theorem pbx_below {w w' : World} {g : Nat} {a b : Int} (c : Pbx w g a b) (hb : Below w.heap.size w w') : Pbx w' g a b := ⟨(hb.block g (pbx_z c)).trans c.h⟩
theorem pbx_block {w w' : World} {g : Nat} {a b : Int} (c : Pbx w g a b) (hb : w'.heap[g]? = w.heap[g]?) : Pbx w' g a b := ⟨hb.trans c.h⟩
theorem pbx_cells {w : World} {g : Nat} {a b : Int} (c : Pbx w g a b) : w.cell? ⟨g, 0, none⟩ = some (.int .i64 a) ∧ w.cell? ⟨g, 1, none⟩ = some (.int .i64 b) := by
  have k := fun j => cell_of_row w g j _ 34 (0, 0) c.h
  exact ⟨(k 0).trans rfl, (k 1).trans rfl⟩
theorem pbx_new (w : World) (a b : Int) : Pbx (w.alloc (.cells #[.int .i64 a, .int .i64 b] 34)) w.heap.size a b := ⟨heap_alloc_new w _⟩
set_option maxHeartbeats 2000000 in
theorem duAround_any (A : Option Addr) (c : Nat) (l : List (Int × Int)) (w : World) (hg : Good l) (hcap : l.length ≤ c) (hc2 : c ≤ 9223372036854775807) (hR : Rd w w.heap.size A l) :
    Calls Try.prog 55 #[.slice A l.length c] w (RetP w (arL (tl l))) := by
  have KF := Lib.hid (show Calls Try.prog 52 #[.slice A l.length c] w (RetP w (tl l)) from pgFirst_any A c l w hg hcap hc2 hR)
  have ht := tl_rng hg
  clear hg hcap hc2 hR
  generalize tl l = t at *
  have h1 := ht.few.1
  have h10 := ht.few.2
  have HP := Lib.hid (fun i => rng_peg ht i)
  have HD := Lib.hid (fun i (hi : i < t.length) => ht.diff i hi)
  have HL := Lib.hid (fun i (hi : i ≤ t.length) => ar_len ht i hi)
  obtain ⟨i0, hi0, hz0, hz1, hz2⟩ := info_parts peg_info
  have HI := Lib.hid (And.intro hi0 (And.intro hz0 (And.intro hz1 hz2)))
  clear hi0 hz0 hz1 hz2 ht
  have HS : Hid (∀ i, arR t (i + 1) = arR t i ++ firsts (lnP (vx t i) (vx t (i + 1))) (MJ.St (vx t i) (vx t (i + 1)))) := Lib.hid (fun _ => rfl)
  have HE : Hid (arL t = arR t t.length) := Lib.hid rfl
  have HN : Hid (∀ v W W0, Below w.heap.size w W0 → RowL W W0.heap.size v (arL t) → Below W0.heap.size W0 W → RetP w (arL t) (.returned v) W) := Lib.hid (fun v W W0 h0 h hb => by
    obtain ⟨A, c, e, q1, q2, q3, q4⟩ := retP_rowL h hb
    exact ⟨A, c, e, q1, q2, h0.trans (q3.mono h0.size), rw_more q4 h0.size (Nat.le_refl _)⟩)
  generalize hQ : RetP w (arL t) = Q
  rw [hQ] at HN
  clear hQ
  go_enter Try.func55, Try.ntmps55
  go_wp2_with fail
  refine KF.out.mono ?_; rintro e w2 ⟨A2, c2, rfl, q1, q2, hb2, q3⟩
  have BW2 := Lib.hid hb2
  have RD : Rd w2 w2.heap.size A2 t := rw_rd q3
  obtain ⟨b, off, rfl, hbb, HC⟩ := pts_of (by omega) RD
  clear KF q1 q2 hb2 q3 RD
  generalize hNN : t.length = n at *
  have HNN := Lib.hid hNN
  clear hNN
  go_wp2_with fail
  go_loopg [3, 13] n (fun gg s x wr => ∃ (i : Nat) (v : Value), v = s ∧ i ≤ n ∧ gg = n - i ∧ x = .int .i64 i ∧ Below w2.heap.size w2 wr ∧ Hid (RowL wr w2.heap.size v (arR t i)))
  case atStart => exact ⟨0, _, rfl, Nat.zero_le _, rfl, rfl, Below.refl _ _, Lib.hid (rowL_nil _ _)⟩
  case round =>
    obtain ⟨i, v, rfl, hi, hgg, rfl, hB, hr⟩ := hrel
    rename World => wo
    have HGK := Lib.hid hgg
    clear hgg
    by_cases hlt : i < n
    · have m1 : (i + 1) % n < n := Nat.mod_lt _ (by omega)
      obtain ⟨a1, a2, ha⟩ : ∃ a1 a2, vx t i = (a1, a2) := ⟨_, _, rfl⟩
      obtain ⟨b1, b2, hb⟩ : ∃ b1 b2, vx t (i + 1) = (b1, b2) := ⟨_, _, rfl⟩
      have em : vx t ((i + 1) % n) = (b1, b2) := by rw [← HNN.out, vx_per, hb]
      have hS1 := HS.out i
      have pa := HP.out i
      have pb := HP.out (i + 1)
      have hd := HD.out i hlt
      have hL1 := HL.out i (by omega)
      have x0 := (HC.out wo hB i hlt).1
      have x1 := (HC.out wo hB i hlt).2
      have x2 := (HC.out wo hB _ m1).1
      have x3 := (HC.out wo hB _ m1).2
      rw [ha] at x0 x1 hS1 pa hd
      rw [hb] at hS1 pb hd
      rw [em] at x2 x3
      simp only [] at x0 x1 x2 x3
      have hst := st_bd hd pa pb
      have KS := Lib.hid (fun W => pgStep_any a1 a2 b1 b2 W (sz_of pa) (sz_of pb))
      rw [show stepN a1 a2 b1 b2 = (MJ.St (a1, a2) (b1, b2) : Int) from (st_is (a1, a2) (b1, b2)).symm] at KS
      have LBD := Lib.hid (fun k (hk : k ≤ MJ.St (a1, a2) (b1, b2)) => ln_bd hd pa pb hk)
      have hdv := dv_bd hd pa pb
      have HS1 := Lib.hid hS1
      have FZ : Hid (∀ f : Nat → Int × Int, firsts f 0 = []) := Lib.hid (fun _ => rfl)
      have LF : Hid (∀ k : Nat, lnP (a1, a2) (b1, b2) k = (a1 + (b1 - a1).tdiv (MJ.St (a1, a2) (b1, b2) : Int) * k, a2 + (b2 - a2).tdiv (MJ.St (a1, a2) (b1, b2) : Int) * k)) := Lib.hid (fun _ => rfl)
      have hdv' : (-80 ≤ (b1 - a1).tdiv (MJ.St (a1, a2) (b1, b2) : Int) ∧ (b1 - a1).tdiv (MJ.St (a1, a2) (b1, b2) : Int) ≤ 80) ∧ (-80 ≤ (b2 - a2).tdiv (MJ.St (a1, a2) (b1, b2) : Int) ∧ (b2 - a2).tdiv (MJ.St (a1, a2) (b1, b2) : Int) ≤ 80) := hdv
      have ab := peg_40 pa
      have bb' := peg_40 pb
      simp only [] at ab bb'
      generalize lnP (a1, a2) (b1, b2) = f at *
      generalize MJ.St (a1, a2) (b1, b2) = st at *
      generalize hm0 : arR t i = m0 at *
      generalize hm1 : arR t (i + 1) = m1' at *
      have HM1 := Lib.hid hm1
      clear hm0 hm1 hS1 pa pb hd ha hb em hdv
      have hzB := hB.size
      have hbo : b < wo.heap.size := by omega
      have hne : ¬ b = wo.heap.size := by omega
      have i1 : IntKind.i64.wrap ((i : Int) + 1) = (i : Int) + 1 := IntWalk.i64_in _ (by omega)
      have i2 : ¬ n = 0 := by omega
      have i3 : (0 : Int) ≤ ((i : Int) + 1) % (n : Int) := Int.emod_nonneg _ (by omega)
      have i4 : ((i : Int) + 1) % (n : Int) < (n : Int) := Int.emod_lt_of_pos _ (by omega)
      have i5 : ((i : Int) + 1).tmod (n : Int) = ((i : Int) + 1) % (n : Int) := Int.tmod_eq_emod_of_nonneg (by omega)
      have i6 : (((i : Int) + 1) % (n : Int)).toNat = (i + 1) % n := by rw [show ((i : Int) + 1) % (n : Int) = (((i + 1) % n : Nat) : Int) by simp]; exact Int.toNat_natCast _
      have hPa := pbx_below (pbx_new wo a1 a2) (Below.alloc (Below.refl _ _) (Nat.le_refl _) (.cells #[.int .i64 b1, .int .i64 b2] 34))
      have hPb := pbx_new (wo.alloc (.cells #[.int .i64 a1, .int .i64 a2] 34)) b1 b2
      have hBn := Below.alloc (Below.alloc (Below.refl wo.heap.size wo) (Nat.le_refl _) (.cells #[.int .i64 a1, .int .i64 a2] 34)) (by simp) (.cells #[.int .i64 b1, .int .i64 b2] 34)
      rw [show (wo.alloc (.cells #[.int .i64 a1, .int .i64 a2] 34)).heap.size = wo.heap.size + 1 by simp] at hPb
      have HPa := Lib.hid hPa
      have HPb := Lib.hid hPb
      have HBn := Lib.hid hBn
      clear hPa hPb hBn
      go_wp2_with fail
      have hPa := HPa.out
      have hPb := HPb.out
      have hBn := HBn.out
      clear HPa HPb HBn
      generalize ((wo.alloc (.cells #[.int .i64 a1, .int .i64 a2] 34)).alloc (.cells #[.int .i64 b1, .int .i64 b2] 34)) = Wb at *
      have R0 := Lib.hid (rowL_below hr.out hBn (Nat.le_refl _))
      have B0 := hB.trans (hBn.mono hzB)
      have A0 : Hid (∀ r, v.ownBlock = some r → r < wo.heap.size) := Lib.hid (fun r h => (World.ownsRow.lt hr.out r h).2)
      have hz0 := B0.size
      obtain ⟨ga, hga⟩ : ∃ ga, ga = wo.heap.size := ⟨_, rfl⟩
      rw [← hga] at hPa hPb A0 ⊢
      clear hBn hr hB hga x0 x1 x2 x3 i1 i3 i4 i5 i6 hne hbo
      refine (KS.out Wb).mono ?_; rintro e w3 ⟨rfl, hb3⟩
      have B3 := B0.trans (hb3.mono hz0)
      have R3 := Lib.hid (rowL_below R0.out hb3 (Nat.le_refl _))
      have PA := Lib.hid (pbx_below hPa hb3)
      have PB := Lib.hid (pbx_below hPb hb3)
      have AP : Hid (∀ r, v.ownBlock = some r → r ≠ ga ∧ r ≠ ga + 1) := Lib.hid (fun r h => by have := A0.out r h; omega)
      clear hb3 hPa hPb R0 B0 A0 KS hz0
      go_wp2_with fail
      go_loopg [3, 8] st (fun gg s x wr => ∃ (k : Nat) (u : Value), u = s ∧ k ≤ st ∧ gg = st - k ∧ x = .int .i64 k ∧ Below w2.heap.size w2 wr ∧ Hid (RowL wr w2.heap.size u (m0 ++ firsts f k)) ∧ Hid (Pbx wr ga a1 a2) ∧ Hid (Pbx wr (ga + 1) b1 b2) ∧ Hid (∀ r, u.ownBlock = some r → r ≠ ga ∧ r ≠ ga + 1))
      case atStart => exact ⟨0, _, rfl, Nat.zero_le _, rfl, rfl, B3, Lib.hid (by rw [FZ.out, List.append_nil]; exact R3.out), PA, PB, AP⟩
      case round =>
        clear B3 R3 PA PB AP
        obtain ⟨k, u, rfl, hk, hgg, rfl, hB, hr, PA, PB, AP⟩ := hrel
        rename World => wi
        have HGI := Lib.hid hgg
        clear hgg
        by_cases hlk : k < st
        · have hL := LBD.out k (by omega)
          have hf := LF.out k
          have HSK : Hid (m0 ++ firsts f (k + 1) = (m0 ++ firsts f k) ++ [f k]) := Lib.hid (by rw [show firsts f (k + 1) = firsts f k ++ [f k] from firsts_succ f k, List.append_assoc])
          have hlen : (m0 ++ firsts f k).length ≤ 2000 := by rw [List.length_append, firsts_len]; omega
          obtain ⟨d1, hd1⟩ : ∃ d, (b1 - a1).tdiv (st : Int) = d := ⟨_, rfl⟩
          obtain ⟨d2, hd2⟩ : ∃ d, (b2 - a2).tdiv (st : Int) = d := ⟨_, rfl⟩
          rw [hf] at hL HSK
          simp only [] at hL
          rw [hd1, hd2] at hL HSK hdv'
          obtain ⟨p1, hp1⟩ : ∃ p, d1 * (k : Int) = p := ⟨_, rfl⟩
          obtain ⟨p2, hp2⟩ : ∃ p, d2 * (k : Int) = p := ⟨_, rfl⟩
          rw [hp1, hp2] at hL HSK
          have w1 : IntKind.i64.wrap (b1 - a1) = b1 - a1 := IntWalk.i64_in _ (by omega)
          have w1' : IntKind.i64.wrap (b2 - a2) = b2 - a2 := IntWalk.i64_in _ (by omega)
          have w2' : IntKind.i64.wrap ((b1 - a1).tdiv (st : Int)) = d1 := by rw [hd1]; exact IntWalk.i64_in _ (by omega)
          have w2'' : IntKind.i64.wrap ((b2 - a2).tdiv (st : Int)) = d2 := by rw [hd2]; exact IntWalk.i64_in _ (by omega)
          have w3' : IntKind.i64.wrap (d1 * (k : Int)) = p1 := by rw [hp1]; exact IntWalk.i64_in _ (by omega)
          have w3'' : IntKind.i64.wrap (d2 * (k : Int)) = p2 := by rw [hp2]; exact IntWalk.i64_in _ (by omega)
          have w4 : IntKind.i64.wrap (a1 + p1) = a1 + p1 := IntWalk.i64_in _ (by omega)
          have w4' : IntKind.i64.wrap (a2 + p2) = a2 + p2 := IntWalk.i64_in _ (by omega)
          have st0 : ¬ st = 0 := by omega
          have c0 := (pbx_cells PA.out).1
          have c1 := (pbx_cells PA.out).2
          have c2' := (pbx_cells PB.out).1
          have c3 := (pbx_cells PB.out).2
          have zga := pbx_z PA.out
          have zgb := pbx_z PB.out
          clear hd1 hd2 hp1 hp2 hf hdv'
          go_wp2_with fail
          refine wp_region_AP 26 (fun W => Below (wi).heap.size (wi) W) (by kernel_rfl) (by kernel_rfl) (by repeat (first | exact Below.refl _ _ | apply Below.drew)) rfl rfl (by kernel_rfl) (fun _ => by rfl) (by rfl) (fun _ => by rfl) ?_
          (try simp only [Act.put, List.setIfInBounds_toArray, List.set_cons_zero, List.set_cons_succ])
          first | refine wpH_skip (by rfl) ?_ | (refine wpH_text (v := ?_) (by rfl) (fun W k1 => ?_) ?_; rotate_left; (obtain ⟨hc1, hf1⟩ := bcell k1;  go_simp; refine comes_v ?_; exact k1))
          (try simp only [Act.put, List.setIfInBounds_toArray, List.set_cons_zero, List.set_cons_succ])
          first | refine wpH_skip (by rfl) ?_ | (refine wpH_text (v := ?_) (by rfl) (fun W k1 => ?_) ?_; rotate_left; (obtain ⟨hc1, hf1⟩ := bcell k1;  go_simp; refine comes_v ?_; exact k1))
          (try simp only [Act.put, List.setIfInBounds_toArray, List.set_cons_zero, List.set_cons_succ])
          first | refine wpH_skip (by rfl) ?_ | (refine wpH_text (v := ?_) (by rfl) (fun W k1 => ?_) ?_; rotate_left; (obtain ⟨hc1, hf1⟩ := bcell k1;  go_simp; refine comes_v ?_; exact k1))
          (try simp only [Act.put, List.setIfInBounds_toArray, List.set_cons_zero, List.set_cons_succ])
          first | refine wpH_skip (by rfl) ?_ | (refine wpH_text (v := ?_) (by rfl) (fun W k1 => ?_) ?_; rotate_left; (obtain ⟨hc1, hf1⟩ := bcell k1;  go_simp; refine comes_v ?_; exact k1))
          (try simp only [Act.put, List.setIfInBounds_toArray, List.set_cons_zero, List.set_cons_succ])
          first | refine wpH_skip (by rfl) ?_ | (refine wpH_text (v := ?_) (by rfl) (fun W k1 => ?_) ?_; rotate_left; (obtain ⟨hc1, hf1⟩ := bcell k1;  go_simp; refine comes_v ?_; exact k1))
          (try simp only [Act.put, List.setIfInBounds_toArray, List.set_cons_zero, List.set_cons_succ])
          first | refine wpH_skip (by rfl) ?_ | (refine wpH_text (v := ?_) (by rfl) (fun W k1 => ?_) ?_; rotate_left; (obtain ⟨hc1, hf1⟩ := bcell k1;  go_simp; refine comes_v ?_; exact k1))
          (try simp only [Act.put, List.setIfInBounds_toArray, List.set_cons_zero, List.set_cons_succ])
          first | refine wpH_skip (by rfl) ?_ | (refine wpH_text (v := ?_) (by rfl) (fun W k1 => ?_) ?_; rotate_left; (obtain ⟨hc1, hf1⟩ := bcell k1;  go_simp; refine comes_v ?_; exact k1))
          (try simp only [Act.put, List.setIfInBounds_toArray, List.set_cons_zero, List.set_cons_succ])
          first | refine wpH_skip (by rfl) ?_ | (refine wpH_text (v := ?_) (by rfl) (fun W k1 => ?_) ?_; rotate_left; (obtain ⟨hc1, hf1⟩ := bcell k1;  go_simp; refine comes_v ?_; exact k1))
          (try simp only [Act.put, List.setIfInBounds_toArray, List.set_cons_zero, List.set_cons_succ])
          first | refine wpH_skip (by rfl) ?_ | (refine wpH_text (v := ?_) (by rfl) (fun W k1 => ?_) ?_; rotate_left; (obtain ⟨hc1, hf1⟩ := bcell k1;  go_simp; refine comes_v ?_; exact k1))
          (try simp only [Act.put, List.setIfInBounds_toArray, List.set_cons_zero, List.set_cons_succ])
          first | refine wpH_skip (by rfl) ?_ | (refine wpH_text (v := ?_) (by rfl) (fun W k1 => ?_) ?_; rotate_left; (obtain ⟨hc1, hf1⟩ := bcell k1;  go_simp; refine comes_v ?_; exact k1))
          (try simp only [Act.put, List.setIfInBounds_toArray, List.set_cons_zero, List.set_cons_succ])
          first | refine wpH_skip (by rfl) ?_ | (refine wpH_text (v := ?_) (by rfl) (fun W k1 => ?_) ?_; rotate_left; (obtain ⟨hc1, hf1⟩ := bcell k1;  go_simp; refine comes_v ?_; exact k1))
          (try simp only [Act.put, List.setIfInBounds_toArray, List.set_cons_zero, List.set_cons_succ])
          first | refine wpH_skip (by rfl) ?_ | (refine wpH_text (v := ?_) (by rfl) (fun W k1 => ?_) ?_; rotate_left; (obtain ⟨hc1, hf1⟩ := bcell k1;  go_simp; refine comes_v ?_; exact k1))
          (try simp only [Act.put, List.setIfInBounds_toArray, List.set_cons_zero, List.set_cons_succ])
          first | refine wpH_skip (by rfl) ?_ | (refine wpH_text (v := ?_) (by rfl) (fun W k1 => ?_) ?_; rotate_left; (obtain ⟨hc1, hf1⟩ := bcell k1;  go_simp; refine comes_v ?_; exact k1))
          (try simp only [Act.put, List.setIfInBounds_toArray, List.set_cons_zero, List.set_cons_succ])
          first | refine wpH_skip (by rfl) ?_ | (refine wpH_text (v := ?_) (by rfl) (fun W k1 => ?_) ?_; rotate_left; (obtain ⟨hc1, hf1⟩ := bcell k1;  go_simp; refine comes_v ?_; exact k1))
          (try simp only [Act.put, List.setIfInBounds_toArray, List.set_cons_zero, List.set_cons_succ])
          first | refine wpH_skip (by rfl) ?_ | (refine wpH_text (v := ?_) (by rfl) (fun W k1 => ?_) ?_; rotate_left; (obtain ⟨hc1, hf1⟩ := bcell k1;  go_simp; refine comes_v ?_; exact k1))
          (try simp only [Act.put, List.setIfInBounds_toArray, List.set_cons_zero, List.set_cons_succ])
          first | refine wpH_skip (by rfl) ?_ | (refine wpH_text (v := ?_) (by rfl) (fun W k1 => ?_) ?_; rotate_left; (obtain ⟨hc1, hf1⟩ := bcell k1;  go_simp; refine comes_v ?_; exact k1))
          (try simp only [Act.put, List.setIfInBounds_toArray, List.set_cons_zero, List.set_cons_succ])
          first | refine wpH_skip (by rfl) ?_ | (refine wpH_text (v := ?_) (by rfl) (fun W k1 => ?_) ?_; rotate_left; (obtain ⟨hc1, hf1⟩ := bcell k1;  go_simp; refine comes_v ?_; exact k1))
          (try simp only [Act.put, List.setIfInBounds_toArray, List.set_cons_zero, List.set_cons_succ])
          first | refine wpH_skip (by rfl) ?_ | (refine wpH_text (v := ?_) (by rfl) (fun W k1 => ?_) ?_; rotate_left; (obtain ⟨hc1, hf1⟩ := bcell k1;  go_simp; refine comes_v ?_; exact k1))
          (try simp only [Act.put, List.setIfInBounds_toArray, List.set_cons_zero, List.set_cons_succ])
          first | refine wpH_skip (by rfl) ?_ | (refine wpH_text (v := ?_) (by rfl) (fun W k1 => ?_) ?_; rotate_left; (obtain ⟨hc1, hf1⟩ := bcell k1;  go_simp; refine comes_v ?_; exact k1))
          (try simp only [Act.put, List.setIfInBounds_toArray, List.set_cons_zero, List.set_cons_succ])
          first | refine wpH_skip (by rfl) ?_ | (refine wpH_text (v := ?_) (by rfl) (fun W k1 => ?_) ?_; rotate_left; (obtain ⟨hc1, hf1⟩ := bcell k1;  go_simp; refine comes_v ?_; exact k1))
          (try simp only [Act.put, List.setIfInBounds_toArray, List.set_cons_zero, List.set_cons_succ])
          first | refine wpH_skip (by rfl) ?_ | (refine wpH_text (v := ?_) (by rfl) (fun W k1 => ?_) ?_; rotate_left; (obtain ⟨hc1, hf1⟩ := bcell k1;  go_simp; refine comes_v ?_; exact k1))
          (try simp only [Act.put, List.setIfInBounds_toArray, List.set_cons_zero, List.set_cons_succ])
          first | refine wpH_skip (by rfl) ?_ | (refine wpH_text (v := ?_) (by rfl) (fun W k1 => ?_) ?_; rotate_left; (obtain ⟨hc1, hf1⟩ := bcell k1;  go_simp; refine comes_v ?_; exact k1))
          (try simp only [Act.put, List.setIfInBounds_toArray, List.set_cons_zero, List.set_cons_succ])
          first | refine wpH_skip (by rfl) ?_ | (refine wpH_text (v := ?_) (by rfl) (fun W k1 => ?_) ?_; rotate_left; (obtain ⟨hc1, hf1⟩ := bcell k1;  go_simp; refine comes_v ?_; exact k1))
          (try simp only [Act.put, List.setIfInBounds_toArray, List.set_cons_zero, List.set_cons_succ])
          first | refine wpH_skip (by rfl) ?_ | (refine wpH_text (v := ?_) (by rfl) (fun W k1 => ?_) ?_; rotate_left; (obtain ⟨hc1, hf1⟩ := bcell k1;  go_simp; refine comes_v ?_; exact k1))
          (try simp only [Act.put, List.setIfInBounds_toArray, List.set_cons_zero, List.set_cons_succ])
          first | refine wpH_skip (by rfl) ?_ | (refine wpH_text (v := ?_) (by rfl) (fun W k1 => ?_) ?_; rotate_left; (obtain ⟨hc1, hf1⟩ := bcell k1;  go_simp; refine comes_v ?_; exact k1))
          (try simp only [Act.put, List.setIfInBounds_toArray, List.set_cons_zero, List.set_cons_succ])
          refine wpH_nil ?_
          intro W k1; obtain ⟨hc1, hf1⟩ := bcell k1
          refine ⟨.slice (some ⟨W.heap.size, 0, none⟩) 1 1, W.alloc (.cells #[.int .i64 (a1 + p1), .int .i64 (a2 + p2)] 34), (by go_simp), ?_⟩
          (try simp only [Act.put, List.setIfInBounds_toArray, List.set_cons_zero, List.set_cons_succ])
          have B1 := hB.trans (k1.mono hB.size)
          have R1 := rowL_below hr.out k1 (Nat.le_refl _)
          have RA := Lib.hid (rowL_alloc R1 (.cells #[.int .i64 (a1 + p1), .int .i64 (a2 + p2)] 34))
          have BA := Lib.hid (Below.alloc B1 B1.size (.cells #[.int .i64 (a1 + p1), .int .i64 (a2 + p2)] 34))
          have zaW := pbx_z (pbx_below PA.out k1)
          have zbW := pbx_z (pbx_below PB.out k1)
          have PA1 := Lib.hid (pbx_below (pbx_below PA.out k1) (Below.alloc (Below.refl _ _) (Nat.le_refl _) (.cells #[.int .i64 (a1 + p1), .int .i64 (a2 + p2)] 34)))
          have PB1 := Lib.hid (pbx_below (pbx_below PB.out k1) (Below.alloc (Below.refl _ _) (Nat.le_refl _) (.cells #[.int .i64 (a1 + p1), .int .i64 (a2 + p2)] 34)))
          have hz1 := B1.size
          clear R1 B1 hc1 hf1 hr PA PB c0 c1 c2' c3 zga zgb hB
          generalize m0 ++ firsts f k = m at *
          go_wp2_with (at_builtin; go_loud (refine wpList_append_own_at _ rfl (.tmp 34) (.tmp 60) 26 rfl w2.heap.size 34 i0 (.agg #[.int .i64 0, .int .i64 0]) 2 16 Try.underlying26 HI.out.1 HI.out.2.1 HI.out.2.2.1 HI.out.2.2.2 rfl (by decide) u m.length (flat m) rfl RA.out ⟨W.heap.size, 0, none⟩ 1 1 [.int .i64 (a1 + p1), .int .i64 (a2 + p2)] rfl rfl (two_cells (by go_simp) (by go_simp)) (two_one _ _) (by unfold maxLen; omega) (by omega) (by simp; omega) ?_))
          intro v' w9 hown hgr _ hat
          have za1 := pbx_z PA1.out
          have zb1 := pbx_z PB1.out
          have PA2 := Lib.hid (pbx_block PA1.out (hgr.block ga za1 (fun e => (AP.out ga e.symm).1 rfl)))
          have PB2 := Lib.hid (pbx_block PB1.out (hgr.block (ga + 1) zb1 (fun e => (AP.out (ga + 1) e.symm).2 rfl)))
          have AP2 : Hid (∀ r, v'.ownBlock = some r → r ≠ ga ∧ r ≠ ga + 1) := Lib.hid (fun r e => by
            rcases hat with h | h
            · exact AP.out r (h.symm.trans e)
            · have e' := Option.some.inj (h.symm.trans e); constructor <;> (intro e2; omega))
          have RB := rowL_push (w := w2) BA.out RA.out hown hgr
          have R9 := Lib.hid (show RowL w9 w2.heap.size v' (m0 ++ firsts f (k + 1)) from by rw [HSK.out]; exact RB.1)
          have B9 := RB.2
          clear RB hown hgr hat BA RA PA1 PB1 za1 zb1 AP HSK
          go_wp2_with fail
          go_roundg (st - (k + 1))
          case measure => have := HGI.out; omega
          case rel => exact ⟨k + 1, _, rfl, by omega, rfl, by go_num, B9, R9, PA2, PB2, AP2⟩
        · obtain rfl : k = st := by omega
          have R9 := Lib.hid (show RowL wi w2.heap.size u (arR t (i + 1)) from by rw [HM1.out, HS1.out]; exact hr.out)
          have e1 : IntKind.i64.wrap ((i : Int) + 1) = ((i + 1 : Nat) : Int) := by rw [IntWalk.i64_in _ (by omega)]; omega
          clear hr PA PB AP
          go_wp2_with fail
          go_roundg (n - (i + 1))
          case measure => have := HGK.out; omega
          case rel => exact ⟨i + 1, _, rfl, by omega, rfl, by go_num, hB, R9⟩
    · obtain rfl : i = n := by omega
      have hP := Lib.hid (HN.out _ _ _ BW2.out (by rw [HE.out]; exact hr.out) hB)
      clear hr hB
      go_wp2_with fail
      exact hP.out
end Go.Proofs.Ytjkfdcjfoliboaa
/- contracts: the model's count of steps around a polygon, of points inside -/
namespace Go.Proofs.Ytjkfdcjfoliboaa
open Go.ChangeShapes Go.WideShapes Go.ChangeAt Go.RowKit Go.Joins
set_option linter.unusedVariables false
set_option linter.unusedSimpArgs false
set_option maxRecDepth 4000
theorem box_keep {w wo W W' : World} {x y : Int} (h : Below w.heap.size w W ∧ wo.heap.size < W.heap.size ∧ W.cell? ⟨wo.heap.size, 0, none⟩ = some (.int .i64 x) ∧ W.cell? ⟨wo.heap.size, 1, none⟩ = some (.int .i64 y)) (hb : Below W.heap.size W W') :
    Below w.heap.size w W' ∧ wo.heap.size < W'.heap.size ∧ W'.cell? ⟨wo.heap.size, 0, none⟩ = some (.int .i64 x) ∧ W'.cell? ⟨wo.heap.size, 1, none⟩ = some (.int .i64 y) := by
  obtain ⟨h1, h2, h3, h4⟩ := h
  have hc := (bcell hb).1
  have hz := hb.size
  exact ⟨h1.trans (hb.mono h1.size), by omega, by rw [hc _ _ h2, h3], by rw [hc _ _ h2, h4]⟩
set_option maxHeartbeats 2000000 in
theorem pgRoundW_any (A : Option Addr) (c : Nat) (l : List (Int × Int)) (w : World) (h3 : 1 ≤ l.length) (hn : l.length ≤ 60) (hp : ∀ i, i < l.length → isPg (vx l i) = true) (hR : Rd w w.heap.size A l) :
    Calls Try.prog 86 #[.slice A l.length c] w fun e w' => e = .returned (.int .i64 (onN l)) ∧ Below w.heap.size w w' := by
  obtain ⟨b, off, rfl, hb, HC⟩ := pts_of (by omega) hR
  have ZP := Lib.hid (fun i => pgs_sz hp i (by omega))
  have HB := Lib.hid (fun k => rn_bd hp (by omega) k)
  have HS : Hid (∀ k, Rn l (k + 1) = Rn l k + stepN (vx l k).1 (vx l k).2 (vx l (k + 1)).1 (vx l (k + 1)).2) := Lib.hid (fun k => rfl)
  have H0 : Hid (Rn l 0 = 0) := Lib.hid rfl
  unfold onN
  clear hp hR
  generalize hN : l.length = n at *
  have HN := Lib.hid hN
  clear hN
  go_enter Try.func86, Try.ntmps86
  go_wp2_with fail
  go_loopg [3, 8] n (fun g s i wr => ∃ k : Nat, k ≤ n ∧ g = n - k ∧ i = .int .i64 k ∧ s = .int .i64 (Rn l k) ∧ Below w.heap.size w wr)
  case atStart => exact ⟨0, by omega, by omega, rfl, by rw [H0.out], Below.refl _ _⟩
  case round =>
    obtain ⟨k, hk, hg, rfl, rfl, hB⟩ := hrel
    rename World => wo
    have HGK := Lib.hid hg
    clear hg
    by_cases hlt : k < n
    · have m2 : (k + 1) % n < n := Nat.mod_lt _ (by omega)
      have T := Lib.hid (fun W => (show Calls Try.prog 77 #[.agg #[.int .i64 (vx l k).1, .int .i64 (vx l k).2], .agg #[.int .i64 (vx l ((k + 1) % n)).1, .int .i64 (vx l ((k + 1) % n)).2]] W fun e w' => e = .returned (.int .i64 (stepN (vx l k).1 (vx l k).2 (vx l (k + 1)).1 (vx l (k + 1)).2)) ∧ Below W.heap.size W w' from by
        rw [← HN.out, vx_per]; exact pgStep_any _ _ _ _ W (ZP.out _) (ZP.out _)))
      have e0 := HS.out k
      obtain ⟨b1, b2⟩ := HB.out (k + 1)
      rw [e0] at b1 b2
      have E0 := Lib.hid e0
      clear e0
      generalize stepN (vx l k).1 (vx l k).2 (vx l (k + 1)).1 (vx l (k + 1)).2 = t at *
      generalize hs : Rn l k = s at *
      have HSS := Lib.hid hs
      clear hs
      have hq := HC.out wo hB k hlt
      have hzB := hB.size
      have hb1 := Below.alloc hB hzB (.cells #[.int .i64 (vx l k).1, .int .i64 (vx l k).2] 34)
      have b4 : IntKind.i64.wrap (s + t) = s + t := IntWalk.i64_in _ (by omega)
      have HB4 := Lib.hid b4
      clear b4
      go_wp2_with fail
      have b4 := HB4.out
      have e1 : IntKind.i64.wrap ((k : Int) + 1) = (k : Int) + 1 := IntWalk.i64_in _ (by omega)
      have e2 : ¬ n = 0 := by omega
      have e3 : (0 : Int) ≤ ((k : Int) + 1) % (n : Int) := Int.emod_nonneg _ (by omega)
      have e4 : ((k : Int) + 1) % (n : Int) < (n : Int) := Int.emod_lt_of_pos _ (by omega)
      have e5 : ((k : Int) + 1).tmod (n : Int) = ((k : Int) + 1) % (n : Int) := Int.tmod_eq_emod_of_nonneg (by omega)
      have e6 : (((k : Int) + 1) % (n : Int)).toNat = (k + 1) % n := by rw [show ((k : Int) + 1) % (n : Int) = (((k + 1) % n : Nat) : Int) by simp]; exact Int.toNat_natCast _
      refine wp_region_B (fun W => Below w.heap.size w W ∧ wo.heap.size < W.heap.size ∧ W.cell? ⟨wo.heap.size, 0, none⟩ = some (.int .i64 (vx l k).1) ∧ W.cell? ⟨wo.heap.size, 1, none⟩ = some (.int .i64 (vx l k).2)) (by kernel_rfl) ⟨hb1.drew, by simp, by go_simp, by go_simp⟩ ?_
      clear hq hb1
      first | refine wpB_skip 0 rfl (by kernel_rfl) (by kernel_rfl) (by kernel_rfl) (by rfl) ?_ | (refine wpB_text 0 (v := ?_) rfl (by kernel_rfl) (by kernel_rfl) (by kernel_rfl) (by rfl) (fun W hW => ?_) ?_; rotate_left; (obtain ⟨k1, k2, k3, k4⟩ := hW; have c1 := HC.out W k1 ((k + 1) % n) m2; go_simp; refine comes_v ?_; exact ⟨k1, k2, k3, k4⟩))
      (try simp only [Act.put, List.setIfInBounds_toArray, List.set_cons_zero, List.set_cons_succ])
      first | refine wpB_skip 1 rfl (by kernel_rfl) (by kernel_rfl) (by kernel_rfl) (by rfl) ?_ | (refine wpB_text 1 (v := ?_) rfl (by kernel_rfl) (by kernel_rfl) (by kernel_rfl) (by rfl) (fun W hW => ?_) ?_; rotate_left; (obtain ⟨k1, k2, k3, k4⟩ := hW; have c1 := HC.out W k1 ((k + 1) % n) m2; go_simp; refine comes_v ?_; exact ⟨k1, k2, k3, k4⟩))
      (try simp only [Act.put, List.setIfInBounds_toArray, List.set_cons_zero, List.set_cons_succ])
      first | refine wpB_skip 2 rfl (by kernel_rfl) (by kernel_rfl) (by kernel_rfl) (by rfl) ?_ | (refine wpB_text 2 (v := ?_) rfl (by kernel_rfl) (by kernel_rfl) (by kernel_rfl) (by rfl) (fun W hW => ?_) ?_; rotate_left; (obtain ⟨k1, k2, k3, k4⟩ := hW; have c1 := HC.out W k1 ((k + 1) % n) m2; go_simp; refine comes_v ?_; exact ⟨k1, k2, k3, k4⟩))
      (try simp only [Act.put, List.setIfInBounds_toArray, List.set_cons_zero, List.set_cons_succ])
      first | refine wpB_skip 3 rfl (by kernel_rfl) (by kernel_rfl) (by kernel_rfl) (by rfl) ?_ | (refine wpB_text 3 (v := ?_) rfl (by kernel_rfl) (by kernel_rfl) (by kernel_rfl) (by rfl) (fun W hW => ?_) ?_; rotate_left; (obtain ⟨k1, k2, k3, k4⟩ := hW; have c1 := HC.out W k1 ((k + 1) % n) m2; go_simp; refine comes_v ?_; exact ⟨k1, k2, k3, k4⟩))
      (try simp only [Act.put, List.setIfInBounds_toArray, List.set_cons_zero, List.set_cons_succ])
      first | refine wpB_skip 4 rfl (by kernel_rfl) (by kernel_rfl) (by kernel_rfl) (by rfl) ?_ | (refine wpB_text 4 (v := ?_) rfl (by kernel_rfl) (by kernel_rfl) (by kernel_rfl) (by rfl) (fun W hW => ?_) ?_; rotate_left; (obtain ⟨k1, k2, k3, k4⟩ := hW; have c1 := HC.out W k1 ((k + 1) % n) m2; go_simp; refine comes_v ?_; exact ⟨k1, k2, k3, k4⟩))
      (try simp only [Act.put, List.setIfInBounds_toArray, List.set_cons_zero, List.set_cons_succ])
      first | refine wpB_skip 5 rfl (by kernel_rfl) (by kernel_rfl) (by kernel_rfl) (by rfl) ?_ | (refine wpB_text 5 (v := ?_) rfl (by kernel_rfl) (by kernel_rfl) (by kernel_rfl) (by rfl) (fun W hW => ?_) ?_; rotate_left; (obtain ⟨k1, k2, k3, k4⟩ := hW; have c1 := HC.out W k1 ((k + 1) % n) m2; go_simp; refine comes_v ?_; exact ⟨k1, k2, k3, k4⟩))
      (try simp only [Act.put, List.setIfInBounds_toArray, List.set_cons_zero, List.set_cons_succ])
      first | refine wpB_skip 6 rfl (by kernel_rfl) (by kernel_rfl) (by kernel_rfl) (by rfl) ?_ | (refine wpB_text 6 (v := ?_) rfl (by kernel_rfl) (by kernel_rfl) (by kernel_rfl) (by rfl) (fun W hW => ?_) ?_; rotate_left; (obtain ⟨k1, k2, k3, k4⟩ := hW; have c1 := HC.out W k1 ((k + 1) % n) m2; go_simp; refine comes_v ?_; exact ⟨k1, k2, k3, k4⟩))
      (try simp only [Act.put, List.setIfInBounds_toArray, List.set_cons_zero, List.set_cons_succ])
      first | refine wpB_skip 7 rfl (by kernel_rfl) (by kernel_rfl) (by kernel_rfl) (by rfl) ?_ | (refine wpB_text 7 (v := ?_) rfl (by kernel_rfl) (by kernel_rfl) (by kernel_rfl) (by rfl) (fun W hW => ?_) ?_; rotate_left; (obtain ⟨k1, k2, k3, k4⟩ := hW; have c1 := HC.out W k1 ((k + 1) % n) m2; go_simp; refine comes_v ?_; exact ⟨k1, k2, k3, k4⟩))
      (try simp only [Act.put, List.setIfInBounds_toArray, List.set_cons_zero, List.set_cons_succ])
      first | refine wpB_skip 8 rfl (by kernel_rfl) (by kernel_rfl) (by kernel_rfl) (by rfl) ?_ | (refine wpB_text 8 (v := ?_) rfl (by kernel_rfl) (by kernel_rfl) (by kernel_rfl) (by rfl) (fun W hW => ?_) ?_; rotate_left; (obtain ⟨k1, k2, k3, k4⟩ := hW; have c1 := HC.out W k1 ((k + 1) % n) m2; go_simp; refine comes_v ?_; exact ⟨k1, k2, k3, k4⟩))
      (try simp only [Act.put, List.setIfInBounds_toArray, List.set_cons_zero, List.set_cons_succ])
      first | refine wpB_skip 9 rfl (by kernel_rfl) (by kernel_rfl) (by kernel_rfl) (by rfl) ?_ | (refine wpB_text 9 (v := ?_) rfl (by kernel_rfl) (by kernel_rfl) (by kernel_rfl) (by rfl) (fun W hW => ?_) ?_; rotate_left; (obtain ⟨k1, k2, k3, k4⟩ := hW; have c1 := HC.out W k1 ((k + 1) % n) m2; go_simp; refine comes_v ?_; exact ⟨k1, k2, k3, k4⟩))
      (try simp only [Act.put, List.setIfInBounds_toArray, List.set_cons_zero, List.set_cons_succ])
      first | refine wpB_skip 10 rfl (by kernel_rfl) (by kernel_rfl) (by kernel_rfl) (by rfl) ?_ | (refine wpB_text 10 (v := .int .i64 t) rfl (by kernel_rfl) (by kernel_rfl) (by kernel_rfl) (by rfl) (fun W hW => ?_) ?_; (obtain ⟨k1, k2, k3, k4⟩ := hW; have c1 := HC.out W k1 ((k + 1) % n) m2; go_simp; exact comes_c ( T.out _) (fun wn hbn => box_keep ⟨k1, k2, k3, k4⟩ hbn)))
      (try simp only [Act.put, List.setIfInBounds_toArray, List.set_cons_zero, List.set_cons_succ])
      first | refine wpB_skip 11 rfl (by kernel_rfl) (by kernel_rfl) (by kernel_rfl) (by rfl) ?_ | (refine wpB_text 11 (v := ?_) rfl (by kernel_rfl) (by kernel_rfl) (by kernel_rfl) (by rfl) (fun W hW => ?_) ?_; rotate_left; (obtain ⟨k1, k2, k3, k4⟩ := hW; have c1 := HC.out W k1 ((k + 1) % n) m2; go_simp; refine comes_v ?_; exact ⟨k1, k2, k3, k4⟩))
      (try simp only [Act.put, List.setIfInBounds_toArray, List.set_cons_zero, List.set_cons_succ])
      first | refine wpB_skip 12 rfl (by kernel_rfl) (by kernel_rfl) (by kernel_rfl) (by rfl) ?_ | (refine wpB_text 12 (v := ?_) rfl (by kernel_rfl) (by kernel_rfl) (by kernel_rfl) (by rfl) (fun W hW => ?_) ?_; rotate_left; (obtain ⟨k1, k2, k3, k4⟩ := hW; have c1 := HC.out W k1 ((k + 1) % n) m2; go_simp; refine comes_v ?_; exact ⟨k1, k2, k3, k4⟩))
      (try simp only [Act.put, List.setIfInBounds_toArray, List.set_cons_zero, List.set_cons_succ])
      refine wpB_done (by kernel_rfl) ?_ _
      intro W hW; obtain ⟨k1, k2, k3, k4⟩ := hW
      clear e1 e2 e3 e4 e5 e6 b4
      go_wp2_with fail
      go_roundg (n - (k + 1))
      case measure => have := HGK.out; omega
      case rel => exact ⟨k + 1, by omega, rfl, by go_num, by rw [E0.out], k1⟩
    · have hkn : n = k := by omega
      subst hkn
      go_wp2_with fail
      go_ret
      exact ⟨rfl, hB⟩
theorem pgRound_any (A : Option Addr) (c : Nat) (l : List (Int × Int)) (w : World) (h3 : 1 ≤ l.length) (hn : l.length ≤ 10) (hp : ∀ i, i < l.length → isPg (vx l i) = true) (hR : Rd w w.heap.size A l) :
    Calls Try.prog 86 #[.slice A l.length c] w fun e w' => e = .returned (.int .i64 (onN l)) ∧ Below w.heap.size w w' := pgRoundW_any A c l w h3 (by omega) hp hR
end Go.Proofs.Ytjkfdcjfoliboaa
/- contract: do two lines meet, the model -/
namespace Go.Proofs.Ytjkfdcjfoliboaa
open Go.ChangeShapes Go.WideShapes Go.ChangeAt Go.RowKit Go.Joins
set_option linter.unusedVariables false
set_option linter.unusedSimpArgs false
set_option maxRecDepth 4000
set_option maxHeartbeats 2000000 in
theorem pgMeet_any (a1 a2 b1 b2 c1 c2 d1 d2 : Int) (w : World) (ha : Sz a1 a2) (hb : Sz b1 b2) (hc : Sz c1 c2) (hd : Sz d1 d2) :
    Calls Try.prog 63 #[.agg #[.int .i64 a1, .int .i64 a2], .agg #[.int .i64 b1, .int .i64 b2], .agg #[.int .i64 c1, .int .i64 c2], .agg #[.int .i64 d1, .int .i64 d2]] w fun e w' => e = .returned (.bool (meetB a1 a2 b1 b2 c1 c2 d1 d2)) ∧ Below w.heap.size w w' := by
  have K1 := Lib.hid (fun W => pgOn_any a1 a2 b1 b2 c1 c2 W ha hb hc)
  have K2 := Lib.hid (fun W => pgOn_any a1 a2 b1 b2 d1 d2 W ha hb hd)
  have K3 := Lib.hid (fun W => pgOn_any c1 c2 d1 d2 a1 a2 W hc hd ha)
  have K4 := Lib.hid (fun W => pgOn_any c1 c2 d1 d2 b1 b2 W hc hd hb)
  have T1 := Lib.hid (fun W => pgTurn_any a1 a2 b1 b2 c1 c2 W ha hb hc)
  have T2 := Lib.hid (fun W => pgTurn_any a1 a2 b1 b2 d1 d2 W ha hb hd)
  have T3 := Lib.hid (fun W => pgTurn_any c1 c2 d1 d2 a1 a2 W hc hd ha)
  have T4 := Lib.hid (fun W => pgTurn_any c1 c2 d1 d2 b1 b2 W hc hd hb)
  clear ha hb hc hd
  have eq : meetB a1 a2 b1 b2 c1 c2 d1 d2 = (onB a1 a2 b1 b2 c1 c2 || onB a1 a2 b1 b2 d1 d2 || onB c1 c2 d1 d2 a1 a2 || onB c1 c2 d1 d2 b1 b2 ||
      (decide (sgn (twI a1 a2 b1 b2 c1 c2) * sgn (twI a1 a2 b1 b2 d1 d2) < 0) && decide (sgn (twI c1 c2 d1 d2 a1 a2) * sgn (twI c1 c2 d1 d2 b1 b2) < 0))) := by
    unfold meetB; simp only [sgn_mul, Bool.decide_and]
  rw [eq]
  clear eq
  obtain ⟨p1, p2⟩ := sgn_pr (twI a1 a2 b1 b2 c1 c2) (twI a1 a2 b1 b2 d1 d2)
  obtain ⟨p3, p4⟩ := sgn_pr (twI c1 c2 d1 d2 a1 a2) (twI c1 c2 d1 d2 b1 b2)
  generalize twI a1 a2 b1 b2 c1 c2 = t1 at *
  generalize twI a1 a2 b1 b2 d1 d2 = t2 at *
  generalize twI c1 c2 d1 d2 a1 a2 = t3 at *
  generalize twI c1 c2 d1 d2 b1 b2 = t4 at *
  generalize onB a1 a2 b1 b2 c1 c2 = o1 at *
  generalize onB a1 a2 b1 b2 d1 d2 = o2 at *
  generalize onB c1 c2 d1 d2 a1 a2 = o3 at *
  generalize onB c1 c2 d1 d2 b1 b2 = o4 at *
  cases o1
  · go_enter Try.func63, Try.ntmps63
    go_wp2_with fail
    refine (K1.out _).mono ?_; rintro e w1 ⟨rfl, hb1⟩
    obtain ⟨hc1, hf1⟩ := bcell hb1
    have z1_0 : w.heap.size < w1.heap.size := by (have := hb1.size; simp at this; omega)
    have z1_1 : w.heap.size + 1 < w1.heap.size := by (have := hb1.size; simp at this; omega)
    have z1_2 : w.heap.size + 2 < w1.heap.size := by (have := hb1.size; simp at this; omega)
    have z1_3 : w.heap.size + 3 < w1.heap.size := by (have := hb1.size; simp at this; omega)
    have B1 : Below w.heap.size w w1 := (Below.alloc (Below.alloc (Below.alloc (Below.alloc (Below.refl _ _) (by simp <;> omega) _) (by simp <;> omega) _) (by simp <;> omega) _) (by simp <;> omega) _).trans (hb1.mono (by simp <;> omega))
    go_wp2_with fail
    cases o2
    · refine (K2.out _).mono ?_; rintro e w2 ⟨rfl, hb2⟩
      obtain ⟨hc2, hf2⟩ := bcell hb2
      have z2_0 : w.heap.size < w2.heap.size := by (have := hb2.size; omega)
      have z2_1 : w.heap.size + 1 < w2.heap.size := by (have := hb2.size; omega)
      have z2_2 : w.heap.size + 2 < w2.heap.size := by (have := hb2.size; omega)
      have z2_3 : w.heap.size + 3 < w2.heap.size := by (have := hb2.size; omega)
      have B2 : Below w.heap.size w w2 := B1.trans (hb2.mono (by have := B1.size; omega))
      go_wp2_with fail
      cases o3
      · refine (K3.out _).mono ?_; rintro e w3 ⟨rfl, hb3⟩
        obtain ⟨hc3, hf3⟩ := bcell hb3
        have z3_0 : w.heap.size < w3.heap.size := by (have := hb3.size; omega)
        have z3_1 : w.heap.size + 1 < w3.heap.size := by (have := hb3.size; omega)
        have z3_2 : w.heap.size + 2 < w3.heap.size := by (have := hb3.size; omega)
        have z3_3 : w.heap.size + 3 < w3.heap.size := by (have := hb3.size; omega)
        have B3 : Below w.heap.size w w3 := B2.trans (hb3.mono (by have := B2.size; omega))
        go_wp2_with fail
        cases o4
        · refine (K4.out _).mono ?_; rintro e w4 ⟨rfl, hb4⟩
          obtain ⟨hc4, hf4⟩ := bcell hb4
          have z4_0 : w.heap.size < w4.heap.size := by (have := hb4.size; omega)
          have z4_1 : w.heap.size + 1 < w4.heap.size := by (have := hb4.size; omega)
          have z4_2 : w.heap.size + 2 < w4.heap.size := by (have := hb4.size; omega)
          have z4_3 : w.heap.size + 3 < w4.heap.size := by (have := hb4.size; omega)
          have B4 : Below w.heap.size w w4 := B3.trans (hb4.mono (by have := B3.size; omega))
          go_wp2_with fail
          have hS : Below w.heap.size w w4 ∧ w.heap.size + 3 < w4.heap.size ∧ w4.cell? ⟨w.heap.size, 0, none⟩ = some (.int .i64 a1) ∧ w4.cell? ⟨w.heap.size, 1, none⟩ = some (.int .i64 a2) ∧ w4.cell? ⟨w.heap.size + 1, 0, none⟩ = some (.int .i64 b1) ∧ w4.cell? ⟨w.heap.size + 1, 1, none⟩ = some (.int .i64 b2) ∧ w4.cell? ⟨w.heap.size + 2, 0, none⟩ = some (.int .i64 c1) ∧ w4.cell? ⟨w.heap.size + 2, 1, none⟩ = some (.int .i64 c2) ∧ w4.cell? ⟨w.heap.size + 3, 0, none⟩ = some (.int .i64 d1) ∧ w4.cell? ⟨w.heap.size + 3, 1, none⟩ = some (.int .i64 d2) := ⟨B4, z4_3, by rw [hc4 _ _ (by omega), hc3 _ _ (by omega), hc2 _ _ (by omega), hc1 _ _ (by simp <;> omega)]; go_simp, by rw [hc4 _ _ (by omega), hc3 _ _ (by omega), hc2 _ _ (by omega), hc1 _ _ (by simp <;> omega)]; go_simp, by rw [hc4 _ _ (by omega), hc3 _ _ (by omega), hc2 _ _ (by omega), hc1 _ _ (by simp <;> omega)]; go_simp, by rw [hc4 _ _ (by omega), hc3 _ _ (by omega), hc2 _ _ (by omega), hc1 _ _ (by simp <;> omega)]; go_simp, by rw [hc4 _ _ (by omega), hc3 _ _ (by omega), hc2 _ _ (by omega), hc1 _ _ (by simp <;> omega)]; go_simp, by rw [hc4 _ _ (by omega), hc3 _ _ (by omega), hc2 _ _ (by omega), hc1 _ _ (by simp <;> omega)]; go_simp, by rw [hc4 _ _ (by omega), hc3 _ _ (by omega), hc2 _ _ (by omega), hc1 _ _ (by simp <;> omega)]; go_simp, by rw [hc4 _ _ (by omega), hc3 _ _ (by omega), hc2 _ _ (by omega), hc1 _ _ (by simp <;> omega)]; go_simp⟩
          clear hc1 hf1 hc2 hf2 hc3 hf3 hc4 hf4 hb1 hb2 hb3 hb4 B1 B2 B3 B4
          clear z1_0 z1_1 z1_2 z1_3 z2_0 z2_1 z2_2 z2_3 z3_0 z3_1 z3_2 z3_3 z4_0 z4_1 z4_2 z4_3
          have e1 : IntKind.i64.wrap (sgn t1 * sgn t2) = sgn t1 * sgn t2 := IntWalk.i64_in _ (by omega)
          have e2 : IntKind.i64.wrap (sgn t3 * sgn t4) = sgn t3 * sgn t4 := IntWalk.i64_in _ (by omega)
          by_cases hm : sgn t1 * sgn t2 < 0
          · have hd := decide_eq_true hm
            refine wp_region_B (fun W => Below w.heap.size w W ∧ w.heap.size + 3 < W.heap.size ∧ W.cell? ⟨w.heap.size, 0, none⟩ = some (.int .i64 a1) ∧ W.cell? ⟨w.heap.size, 1, none⟩ = some (.int .i64 a2) ∧ W.cell? ⟨w.heap.size + 1, 0, none⟩ = some (.int .i64 b1) ∧ W.cell? ⟨w.heap.size + 1, 1, none⟩ = some (.int .i64 b2) ∧ W.cell? ⟨w.heap.size + 2, 0, none⟩ = some (.int .i64 c1) ∧ W.cell? ⟨w.heap.size + 2, 1, none⟩ = some (.int .i64 c2) ∧ W.cell? ⟨w.heap.size + 3, 0, none⟩ = some (.int .i64 d1) ∧ W.cell? ⟨w.heap.size + 3, 1, none⟩ = some (.int .i64 d2)) (by kernel_rfl) (held4 hS ((Below.refl _ _).drew)) ?_
            first | refine wpB_skip 0 rfl (by kernel_rfl) (by kernel_rfl) (by kernel_rfl) (by rfl) ?_ | (refine wpB_text 0 (v := ?_) rfl (by kernel_rfl) (by kernel_rfl) (by kernel_rfl) (by rfl) (fun W hW => ?_) ?_; rotate_left; (obtain ⟨k1, k2, k3, k4, k5, k6, k7, k8, k9, k10⟩ := hW;  go_simp; refine comes_v ?_; exact ⟨k1, k2, k3, k4, k5, k6, k7, k8, k9, k10⟩))
            (try simp only [Act.put, List.setIfInBounds_toArray, List.set_cons_zero, List.set_cons_succ])
            first | refine wpB_skip 1 rfl (by kernel_rfl) (by kernel_rfl) (by kernel_rfl) (by rfl) ?_ | (refine wpB_text 1 (v := ?_) rfl (by kernel_rfl) (by kernel_rfl) (by kernel_rfl) (by rfl) (fun W hW => ?_) ?_; rotate_left; (obtain ⟨k1, k2, k3, k4, k5, k6, k7, k8, k9, k10⟩ := hW;  go_simp; refine comes_v ?_; exact ⟨k1, k2, k3, k4, k5, k6, k7, k8, k9, k10⟩))
            (try simp only [Act.put, List.setIfInBounds_toArray, List.set_cons_zero, List.set_cons_succ])
            first | refine wpB_skip 2 rfl (by kernel_rfl) (by kernel_rfl) (by kernel_rfl) (by rfl) ?_ | (refine wpB_text 2 (v := ?_) rfl (by kernel_rfl) (by kernel_rfl) (by kernel_rfl) (by rfl) (fun W hW => ?_) ?_; rotate_left; (obtain ⟨k1, k2, k3, k4, k5, k6, k7, k8, k9, k10⟩ := hW;  go_simp; refine comes_v ?_; exact ⟨k1, k2, k3, k4, k5, k6, k7, k8, k9, k10⟩))
            (try simp only [Act.put, List.setIfInBounds_toArray, List.set_cons_zero, List.set_cons_succ])
            first | refine wpB_skip 3 rfl (by kernel_rfl) (by kernel_rfl) (by kernel_rfl) (by rfl) ?_ | (refine wpB_text 3 (v := .int .i64 t1) rfl (by kernel_rfl) (by kernel_rfl) (by kernel_rfl) (by rfl) (fun W hW => ?_) ?_; (obtain ⟨k1, k2, k3, k4, k5, k6, k7, k8, k9, k10⟩ := hW;  go_simp; exact comes_c ( T1.out _) (fun wn hbn => held4 ⟨k1, k2, k3, k4, k5, k6, k7, k8, k9, k10⟩ hbn)))
            (try simp only [Act.put, List.setIfInBounds_toArray, List.set_cons_zero, List.set_cons_succ])
            first | refine wpB_skip 4 rfl (by kernel_rfl) (by kernel_rfl) (by kernel_rfl) (by rfl) ?_ | (refine wpB_text 4 (v := .int .i64 (sgn t1)) rfl (by kernel_rfl) (by kernel_rfl) (by kernel_rfl) (by rfl) (fun W hW => ?_) ?_; (obtain ⟨k1, k2, k3, k4, k5, k6, k7, k8, k9, k10⟩ := hW;  go_simp; exact comes_q ( l1Sign_any _ _) ⟨k1, k2, k3, k4, k5, k6, k7, k8, k9, k10⟩))
            (try simp only [Act.put, List.setIfInBounds_toArray, List.set_cons_zero, List.set_cons_succ])
            first | refine wpB_skip 5 rfl (by kernel_rfl) (by kernel_rfl) (by kernel_rfl) (by rfl) ?_ | (refine wpB_text 5 (v := ?_) rfl (by kernel_rfl) (by kernel_rfl) (by kernel_rfl) (by rfl) (fun W hW => ?_) ?_; rotate_left; (obtain ⟨k1, k2, k3, k4, k5, k6, k7, k8, k9, k10⟩ := hW;  go_simp; refine comes_v ?_; exact ⟨k1, k2, k3, k4, k5, k6, k7, k8, k9, k10⟩))
            (try simp only [Act.put, List.setIfInBounds_toArray, List.set_cons_zero, List.set_cons_succ])
            first | refine wpB_skip 6 rfl (by kernel_rfl) (by kernel_rfl) (by kernel_rfl) (by rfl) ?_ | (refine wpB_text 6 (v := ?_) rfl (by kernel_rfl) (by kernel_rfl) (by kernel_rfl) (by rfl) (fun W hW => ?_) ?_; rotate_left; (obtain ⟨k1, k2, k3, k4, k5, k6, k7, k8, k9, k10⟩ := hW;  go_simp; refine comes_v ?_; exact ⟨k1, k2, k3, k4, k5, k6, k7, k8, k9, k10⟩))
            (try simp only [Act.put, List.setIfInBounds_toArray, List.set_cons_zero, List.set_cons_succ])
            first | refine wpB_skip 7 rfl (by kernel_rfl) (by kernel_rfl) (by kernel_rfl) (by rfl) ?_ | (refine wpB_text 7 (v := ?_) rfl (by kernel_rfl) (by kernel_rfl) (by kernel_rfl) (by rfl) (fun W hW => ?_) ?_; rotate_left; (obtain ⟨k1, k2, k3, k4, k5, k6, k7, k8, k9, k10⟩ := hW;  go_simp; refine comes_v ?_; exact ⟨k1, k2, k3, k4, k5, k6, k7, k8, k9, k10⟩))
            (try simp only [Act.put, List.setIfInBounds_toArray, List.set_cons_zero, List.set_cons_succ])
            first | refine wpB_skip 8 rfl (by kernel_rfl) (by kernel_rfl) (by kernel_rfl) (by rfl) ?_ | (refine wpB_text 8 (v := .int .i64 t2) rfl (by kernel_rfl) (by kernel_rfl) (by kernel_rfl) (by rfl) (fun W hW => ?_) ?_; (obtain ⟨k1, k2, k3, k4, k5, k6, k7, k8, k9, k10⟩ := hW;  go_simp; exact comes_c ( T2.out _) (fun wn hbn => held4 ⟨k1, k2, k3, k4, k5, k6, k7, k8, k9, k10⟩ hbn)))
            (try simp only [Act.put, List.setIfInBounds_toArray, List.set_cons_zero, List.set_cons_succ])
            first | refine wpB_skip 9 rfl (by kernel_rfl) (by kernel_rfl) (by kernel_rfl) (by rfl) ?_ | (refine wpB_text 9 (v := .int .i64 (sgn t2)) rfl (by kernel_rfl) (by kernel_rfl) (by kernel_rfl) (by rfl) (fun W hW => ?_) ?_; (obtain ⟨k1, k2, k3, k4, k5, k6, k7, k8, k9, k10⟩ := hW;  go_simp; exact comes_q ( l1Sign_any _ _) ⟨k1, k2, k3, k4, k5, k6, k7, k8, k9, k10⟩))
            (try simp only [Act.put, List.setIfInBounds_toArray, List.set_cons_zero, List.set_cons_succ])
            first | refine wpB_skip 10 rfl (by kernel_rfl) (by kernel_rfl) (by kernel_rfl) (by rfl) ?_ | (refine wpB_text 10 (v := ?_) rfl (by kernel_rfl) (by kernel_rfl) (by kernel_rfl) (by rfl) (fun W hW => ?_) ?_; rotate_left; (obtain ⟨k1, k2, k3, k4, k5, k6, k7, k8, k9, k10⟩ := hW;  go_simp; refine comes_v ?_; exact ⟨k1, k2, k3, k4, k5, k6, k7, k8, k9, k10⟩))
            (try simp only [Act.put, List.setIfInBounds_toArray, List.set_cons_zero, List.set_cons_succ])
            first | refine wpB_skip 11 rfl (by kernel_rfl) (by kernel_rfl) (by kernel_rfl) (by rfl) ?_ | (refine wpB_text 11 (v := ?_) rfl (by kernel_rfl) (by kernel_rfl) (by kernel_rfl) (by rfl) (fun W hW => ?_) ?_; rotate_left; (obtain ⟨k1, k2, k3, k4, k5, k6, k7, k8, k9, k10⟩ := hW;  go_simp; refine comes_v ?_; exact ⟨k1, k2, k3, k4, k5, k6, k7, k8, k9, k10⟩))
            (try simp only [Act.put, List.setIfInBounds_toArray, List.set_cons_zero, List.set_cons_succ])
            first | refine wpB_skip 12 rfl (by kernel_rfl) (by kernel_rfl) (by kernel_rfl) (by rfl) ?_ | (refine wpB_text 12 (v := ?_) rfl (by kernel_rfl) (by kernel_rfl) (by kernel_rfl) (by rfl) (fun W hW => ?_) ?_; rotate_left; (obtain ⟨k1, k2, k3, k4, k5, k6, k7, k8, k9, k10⟩ := hW;  go_simp; refine comes_v ?_; exact ⟨k1, k2, k3, k4, k5, k6, k7, k8, k9, k10⟩))
            (try simp only [Act.put, List.setIfInBounds_toArray, List.set_cons_zero, List.set_cons_succ])
            first | refine wpB_skip 13 rfl (by kernel_rfl) (by kernel_rfl) (by kernel_rfl) (by rfl) ?_ | (refine wpB_text 13 (v := ?_) rfl (by kernel_rfl) (by kernel_rfl) (by kernel_rfl) (by rfl) (fun W hW => ?_) ?_; rotate_left; (obtain ⟨k1, k2, k3, k4, k5, k6, k7, k8, k9, k10⟩ := hW;  go_simp; refine comes_v ?_; exact ⟨k1, k2, k3, k4, k5, k6, k7, k8, k9, k10⟩))
            (try simp only [Act.put, List.setIfInBounds_toArray, List.set_cons_zero, List.set_cons_succ])
            first | refine wpB_skip 14 rfl (by kernel_rfl) (by kernel_rfl) (by kernel_rfl) (by rfl) ?_ | (refine wpB_text 14 (v := ?_) rfl (by kernel_rfl) (by kernel_rfl) (by kernel_rfl) (by rfl) (fun W hW => ?_) ?_; rotate_left; (obtain ⟨k1, k2, k3, k4, k5, k6, k7, k8, k9, k10⟩ := hW;  go_simp; refine comes_v ?_; exact ⟨k1, k2, k3, k4, k5, k6, k7, k8, k9, k10⟩))
            (try simp only [Act.put, List.setIfInBounds_toArray, List.set_cons_zero, List.set_cons_succ])
            first | refine wpB_skip 15 rfl (by kernel_rfl) (by kernel_rfl) (by kernel_rfl) (by rfl) ?_ | (refine wpB_text 15 (v := ?_) rfl (by kernel_rfl) (by kernel_rfl) (by kernel_rfl) (by rfl) (fun W hW => ?_) ?_; rotate_left; (obtain ⟨k1, k2, k3, k4, k5, k6, k7, k8, k9, k10⟩ := hW;  go_simp; refine comes_v ?_; exact ⟨k1, k2, k3, k4, k5, k6, k7, k8, k9, k10⟩))
            (try simp only [Act.put, List.setIfInBounds_toArray, List.set_cons_zero, List.set_cons_succ])
            first | refine wpB_skip 16 rfl (by kernel_rfl) (by kernel_rfl) (by kernel_rfl) (by rfl) ?_ | (refine wpB_text 16 (v := .int .i64 t3) rfl (by kernel_rfl) (by kernel_rfl) (by kernel_rfl) (by rfl) (fun W hW => ?_) ?_; (obtain ⟨k1, k2, k3, k4, k5, k6, k7, k8, k9, k10⟩ := hW;  go_simp; exact comes_c ( T3.out _) (fun wn hbn => held4 ⟨k1, k2, k3, k4, k5, k6, k7, k8, k9, k10⟩ hbn)))
            (try simp only [Act.put, List.setIfInBounds_toArray, List.set_cons_zero, List.set_cons_succ])
            first | refine wpB_skip 17 rfl (by kernel_rfl) (by kernel_rfl) (by kernel_rfl) (by rfl) ?_ | (refine wpB_text 17 (v := .int .i64 (sgn t3)) rfl (by kernel_rfl) (by kernel_rfl) (by kernel_rfl) (by rfl) (fun W hW => ?_) ?_; (obtain ⟨k1, k2, k3, k4, k5, k6, k7, k8, k9, k10⟩ := hW;  go_simp; exact comes_q ( l1Sign_any _ _) ⟨k1, k2, k3, k4, k5, k6, k7, k8, k9, k10⟩))
            (try simp only [Act.put, List.setIfInBounds_toArray, List.set_cons_zero, List.set_cons_succ])
            first | refine wpB_skip 18 rfl (by kernel_rfl) (by kernel_rfl) (by kernel_rfl) (by rfl) ?_ | (refine wpB_text 18 (v := ?_) rfl (by kernel_rfl) (by kernel_rfl) (by kernel_rfl) (by rfl) (fun W hW => ?_) ?_; rotate_left; (obtain ⟨k1, k2, k3, k4, k5, k6, k7, k8, k9, k10⟩ := hW;  go_simp; refine comes_v ?_; exact ⟨k1, k2, k3, k4, k5, k6, k7, k8, k9, k10⟩))
            (try simp only [Act.put, List.setIfInBounds_toArray, List.set_cons_zero, List.set_cons_succ])
            first | refine wpB_skip 19 rfl (by kernel_rfl) (by kernel_rfl) (by kernel_rfl) (by rfl) ?_ | (refine wpB_text 19 (v := ?_) rfl (by kernel_rfl) (by kernel_rfl) (by kernel_rfl) (by rfl) (fun W hW => ?_) ?_; rotate_left; (obtain ⟨k1, k2, k3, k4, k5, k6, k7, k8, k9, k10⟩ := hW;  go_simp; refine comes_v ?_; exact ⟨k1, k2, k3, k4, k5, k6, k7, k8, k9, k10⟩))
            (try simp only [Act.put, List.setIfInBounds_toArray, List.set_cons_zero, List.set_cons_succ])
            first | refine wpB_skip 20 rfl (by kernel_rfl) (by kernel_rfl) (by kernel_rfl) (by rfl) ?_ | (refine wpB_text 20 (v := ?_) rfl (by kernel_rfl) (by kernel_rfl) (by kernel_rfl) (by rfl) (fun W hW => ?_) ?_; rotate_left; (obtain ⟨k1, k2, k3, k4, k5, k6, k7, k8, k9, k10⟩ := hW;  go_simp; refine comes_v ?_; exact ⟨k1, k2, k3, k4, k5, k6, k7, k8, k9, k10⟩))
            (try simp only [Act.put, List.setIfInBounds_toArray, List.set_cons_zero, List.set_cons_succ])
            first | refine wpB_skip 21 rfl (by kernel_rfl) (by kernel_rfl) (by kernel_rfl) (by rfl) ?_ | (refine wpB_text 21 (v := .int .i64 t4) rfl (by kernel_rfl) (by kernel_rfl) (by kernel_rfl) (by rfl) (fun W hW => ?_) ?_; (obtain ⟨k1, k2, k3, k4, k5, k6, k7, k8, k9, k10⟩ := hW;  go_simp; exact comes_c ( T4.out _) (fun wn hbn => held4 ⟨k1, k2, k3, k4, k5, k6, k7, k8, k9, k10⟩ hbn)))
            (try simp only [Act.put, List.setIfInBounds_toArray, List.set_cons_zero, List.set_cons_succ])
            first | refine wpB_skip 22 rfl (by kernel_rfl) (by kernel_rfl) (by kernel_rfl) (by rfl) ?_ | (refine wpB_text 22 (v := .int .i64 (sgn t4)) rfl (by kernel_rfl) (by kernel_rfl) (by kernel_rfl) (by rfl) (fun W hW => ?_) ?_; (obtain ⟨k1, k2, k3, k4, k5, k6, k7, k8, k9, k10⟩ := hW;  go_simp; exact comes_q ( l1Sign_any _ _) ⟨k1, k2, k3, k4, k5, k6, k7, k8, k9, k10⟩))
            (try simp only [Act.put, List.setIfInBounds_toArray, List.set_cons_zero, List.set_cons_succ])
            first | refine wpB_skip 23 rfl (by kernel_rfl) (by kernel_rfl) (by kernel_rfl) (by rfl) ?_ | (refine wpB_text 23 (v := ?_) rfl (by kernel_rfl) (by kernel_rfl) (by kernel_rfl) (by rfl) (fun W hW => ?_) ?_; rotate_left; (obtain ⟨k1, k2, k3, k4, k5, k6, k7, k8, k9, k10⟩ := hW;  go_simp; refine comes_v ?_; exact ⟨k1, k2, k3, k4, k5, k6, k7, k8, k9, k10⟩))
            (try simp only [Act.put, List.setIfInBounds_toArray, List.set_cons_zero, List.set_cons_succ])
            first | refine wpB_skip 24 rfl (by kernel_rfl) (by kernel_rfl) (by kernel_rfl) (by rfl) ?_ | (refine wpB_text 24 (v := ?_) rfl (by kernel_rfl) (by kernel_rfl) (by kernel_rfl) (by rfl) (fun W hW => ?_) ?_; rotate_left; (obtain ⟨k1, k2, k3, k4, k5, k6, k7, k8, k9, k10⟩ := hW;  go_simp; refine comes_v ?_; exact ⟨k1, k2, k3, k4, k5, k6, k7, k8, k9, k10⟩))
            (try simp only [Act.put, List.setIfInBounds_toArray, List.set_cons_zero, List.set_cons_succ])
            first | refine wpB_skip 25 rfl (by kernel_rfl) (by kernel_rfl) (by kernel_rfl) (by rfl) ?_ | (refine wpB_text 25 (v := ?_) rfl (by kernel_rfl) (by kernel_rfl) (by kernel_rfl) (by rfl) (fun W hW => ?_) ?_; rotate_left; (obtain ⟨k1, k2, k3, k4, k5, k6, k7, k8, k9, k10⟩ := hW;  go_simp; refine comes_v ?_; exact ⟨k1, k2, k3, k4, k5, k6, k7, k8, k9, k10⟩))
            (try simp only [Act.put, List.setIfInBounds_toArray, List.set_cons_zero, List.set_cons_succ])
            first | refine wpB_skip 26 rfl (by kernel_rfl) (by kernel_rfl) (by kernel_rfl) (by rfl) ?_ | (refine wpB_text 26 (v := ?_) rfl (by kernel_rfl) (by kernel_rfl) (by kernel_rfl) (by rfl) (fun W hW => ?_) ?_; rotate_left; (obtain ⟨k1, k2, k3, k4, k5, k6, k7, k8, k9, k10⟩ := hW;  go_simp; refine comes_v ?_; exact ⟨k1, k2, k3, k4, k5, k6, k7, k8, k9, k10⟩))
            (try simp only [Act.put, List.setIfInBounds_toArray, List.set_cons_zero, List.set_cons_succ])
            refine wpB_done (by kernel_rfl) ?_ _
            intro W hW; obtain ⟨k1, k2, k3, k4, k5, k6, k7, k8, k9, k10⟩ := hW
            clear e1 e2
            go_wp2_with fail
            go_ret
            exact ⟨ret_bool (by simp [hm]), k1⟩
          · have hd := decide_eq_false hm
            refine wp_region_B (fun W => Below w.heap.size w W ∧ w.heap.size + 3 < W.heap.size ∧ W.cell? ⟨w.heap.size, 0, none⟩ = some (.int .i64 a1) ∧ W.cell? ⟨w.heap.size, 1, none⟩ = some (.int .i64 a2) ∧ W.cell? ⟨w.heap.size + 1, 0, none⟩ = some (.int .i64 b1) ∧ W.cell? ⟨w.heap.size + 1, 1, none⟩ = some (.int .i64 b2) ∧ W.cell? ⟨w.heap.size + 2, 0, none⟩ = some (.int .i64 c1) ∧ W.cell? ⟨w.heap.size + 2, 1, none⟩ = some (.int .i64 c2) ∧ W.cell? ⟨w.heap.size + 3, 0, none⟩ = some (.int .i64 d1) ∧ W.cell? ⟨w.heap.size + 3, 1, none⟩ = some (.int .i64 d2)) (by kernel_rfl) (held4 hS ((Below.refl _ _).drew)) ?_
            first | refine wpB_skip 0 rfl (by kernel_rfl) (by kernel_rfl) (by kernel_rfl) (by rfl) ?_ | (refine wpB_text 0 (v := ?_) rfl (by kernel_rfl) (by kernel_rfl) (by kernel_rfl) (by rfl) (fun W hW => ?_) ?_; rotate_left; (obtain ⟨k1, k2, k3, k4, k5, k6, k7, k8, k9, k10⟩ := hW;  go_simp; refine comes_v ?_; exact ⟨k1, k2, k3, k4, k5, k6, k7, k8, k9, k10⟩))
            (try simp only [Act.put, List.setIfInBounds_toArray, List.set_cons_zero, List.set_cons_succ])
            first | refine wpB_skip 1 rfl (by kernel_rfl) (by kernel_rfl) (by kernel_rfl) (by rfl) ?_ | (refine wpB_text 1 (v := ?_) rfl (by kernel_rfl) (by kernel_rfl) (by kernel_rfl) (by rfl) (fun W hW => ?_) ?_; rotate_left; (obtain ⟨k1, k2, k3, k4, k5, k6, k7, k8, k9, k10⟩ := hW;  go_simp; refine comes_v ?_; exact ⟨k1, k2, k3, k4, k5, k6, k7, k8, k9, k10⟩))
            (try simp only [Act.put, List.setIfInBounds_toArray, List.set_cons_zero, List.set_cons_succ])
            first | refine wpB_skip 2 rfl (by kernel_rfl) (by kernel_rfl) (by kernel_rfl) (by rfl) ?_ | (refine wpB_text 2 (v := ?_) rfl (by kernel_rfl) (by kernel_rfl) (by kernel_rfl) (by rfl) (fun W hW => ?_) ?_; rotate_left; (obtain ⟨k1, k2, k3, k4, k5, k6, k7, k8, k9, k10⟩ := hW;  go_simp; refine comes_v ?_; exact ⟨k1, k2, k3, k4, k5, k6, k7, k8, k9, k10⟩))
            (try simp only [Act.put, List.setIfInBounds_toArray, List.set_cons_zero, List.set_cons_succ])
            first | refine wpB_skip 3 rfl (by kernel_rfl) (by kernel_rfl) (by kernel_rfl) (by rfl) ?_ | (refine wpB_text 3 (v := .int .i64 t1) rfl (by kernel_rfl) (by kernel_rfl) (by kernel_rfl) (by rfl) (fun W hW => ?_) ?_; (obtain ⟨k1, k2, k3, k4, k5, k6, k7, k8, k9, k10⟩ := hW;  go_simp; exact comes_c ( T1.out _) (fun wn hbn => held4 ⟨k1, k2, k3, k4, k5, k6, k7, k8, k9, k10⟩ hbn)))
            (try simp only [Act.put, List.setIfInBounds_toArray, List.set_cons_zero, List.set_cons_succ])
            first | refine wpB_skip 4 rfl (by kernel_rfl) (by kernel_rfl) (by kernel_rfl) (by rfl) ?_ | (refine wpB_text 4 (v := .int .i64 (sgn t1)) rfl (by kernel_rfl) (by kernel_rfl) (by kernel_rfl) (by rfl) (fun W hW => ?_) ?_; (obtain ⟨k1, k2, k3, k4, k5, k6, k7, k8, k9, k10⟩ := hW;  go_simp; exact comes_q ( l1Sign_any _ _) ⟨k1, k2, k3, k4, k5, k6, k7, k8, k9, k10⟩))
            (try simp only [Act.put, List.setIfInBounds_toArray, List.set_cons_zero, List.set_cons_succ])
            first | refine wpB_skip 5 rfl (by kernel_rfl) (by kernel_rfl) (by kernel_rfl) (by rfl) ?_ | (refine wpB_text 5 (v := ?_) rfl (by kernel_rfl) (by kernel_rfl) (by kernel_rfl) (by rfl) (fun W hW => ?_) ?_; rotate_left; (obtain ⟨k1, k2, k3, k4, k5, k6, k7, k8, k9, k10⟩ := hW;  go_simp; refine comes_v ?_; exact ⟨k1, k2, k3, k4, k5, k6, k7, k8, k9, k10⟩))
            (try simp only [Act.put, List.setIfInBounds_toArray, List.set_cons_zero, List.set_cons_succ])
            first | refine wpB_skip 6 rfl (by kernel_rfl) (by kernel_rfl) (by kernel_rfl) (by rfl) ?_ | (refine wpB_text 6 (v := ?_) rfl (by kernel_rfl) (by kernel_rfl) (by kernel_rfl) (by rfl) (fun W hW => ?_) ?_; rotate_left; (obtain ⟨k1, k2, k3, k4, k5, k6, k7, k8, k9, k10⟩ := hW;  go_simp; refine comes_v ?_; exact ⟨k1, k2, k3, k4, k5, k6, k7, k8, k9, k10⟩))
            (try simp only [Act.put, List.setIfInBounds_toArray, List.set_cons_zero, List.set_cons_succ])
            first | refine wpB_skip 7 rfl (by kernel_rfl) (by kernel_rfl) (by kernel_rfl) (by rfl) ?_ | (refine wpB_text 7 (v := ?_) rfl (by kernel_rfl) (by kernel_rfl) (by kernel_rfl) (by rfl) (fun W hW => ?_) ?_; rotate_left; (obtain ⟨k1, k2, k3, k4, k5, k6, k7, k8, k9, k10⟩ := hW;  go_simp; refine comes_v ?_; exact ⟨k1, k2, k3, k4, k5, k6, k7, k8, k9, k10⟩))
            (try simp only [Act.put, List.setIfInBounds_toArray, List.set_cons_zero, List.set_cons_succ])
            first | refine wpB_skip 8 rfl (by kernel_rfl) (by kernel_rfl) (by kernel_rfl) (by rfl) ?_ | (refine wpB_text 8 (v := .int .i64 t2) rfl (by kernel_rfl) (by kernel_rfl) (by kernel_rfl) (by rfl) (fun W hW => ?_) ?_; (obtain ⟨k1, k2, k3, k4, k5, k6, k7, k8, k9, k10⟩ := hW;  go_simp; exact comes_c ( T2.out _) (fun wn hbn => held4 ⟨k1, k2, k3, k4, k5, k6, k7, k8, k9, k10⟩ hbn)))
            (try simp only [Act.put, List.setIfInBounds_toArray, List.set_cons_zero, List.set_cons_succ])
            first | refine wpB_skip 9 rfl (by kernel_rfl) (by kernel_rfl) (by kernel_rfl) (by rfl) ?_ | (refine wpB_text 9 (v := .int .i64 (sgn t2)) rfl (by kernel_rfl) (by kernel_rfl) (by kernel_rfl) (by rfl) (fun W hW => ?_) ?_; (obtain ⟨k1, k2, k3, k4, k5, k6, k7, k8, k9, k10⟩ := hW;  go_simp; exact comes_q ( l1Sign_any _ _) ⟨k1, k2, k3, k4, k5, k6, k7, k8, k9, k10⟩))
            (try simp only [Act.put, List.setIfInBounds_toArray, List.set_cons_zero, List.set_cons_succ])
            first | refine wpB_skip 10 rfl (by kernel_rfl) (by kernel_rfl) (by kernel_rfl) (by rfl) ?_ | (refine wpB_text 10 (v := ?_) rfl (by kernel_rfl) (by kernel_rfl) (by kernel_rfl) (by rfl) (fun W hW => ?_) ?_; rotate_left; (obtain ⟨k1, k2, k3, k4, k5, k6, k7, k8, k9, k10⟩ := hW;  go_simp; refine comes_v ?_; exact ⟨k1, k2, k3, k4, k5, k6, k7, k8, k9, k10⟩))
            (try simp only [Act.put, List.setIfInBounds_toArray, List.set_cons_zero, List.set_cons_succ])
            first | refine wpB_skip 11 rfl (by kernel_rfl) (by kernel_rfl) (by kernel_rfl) (by rfl) ?_ | (refine wpB_text 11 (v := ?_) rfl (by kernel_rfl) (by kernel_rfl) (by kernel_rfl) (by rfl) (fun W hW => ?_) ?_; rotate_left; (obtain ⟨k1, k2, k3, k4, k5, k6, k7, k8, k9, k10⟩ := hW;  go_simp; refine comes_v ?_; exact ⟨k1, k2, k3, k4, k5, k6, k7, k8, k9, k10⟩))
            (try simp only [Act.put, List.setIfInBounds_toArray, List.set_cons_zero, List.set_cons_succ])
            first | refine wpB_skip 12 rfl (by kernel_rfl) (by kernel_rfl) (by kernel_rfl) (by rfl) ?_ | (refine wpB_text 12 (v := ?_) rfl (by kernel_rfl) (by kernel_rfl) (by kernel_rfl) (by rfl) (fun W hW => ?_) ?_; rotate_left; (obtain ⟨k1, k2, k3, k4, k5, k6, k7, k8, k9, k10⟩ := hW;  go_simp; refine comes_v ?_; exact ⟨k1, k2, k3, k4, k5, k6, k7, k8, k9, k10⟩))
            (try simp only [Act.put, List.setIfInBounds_toArray, List.set_cons_zero, List.set_cons_succ])
            first | refine wpB_skip 13 rfl (by kernel_rfl) (by kernel_rfl) (by kernel_rfl) (by rfl) ?_ | (refine wpB_text 13 (v := ?_) rfl (by kernel_rfl) (by kernel_rfl) (by kernel_rfl) (by rfl) (fun W hW => ?_) ?_; rotate_left; (obtain ⟨k1, k2, k3, k4, k5, k6, k7, k8, k9, k10⟩ := hW;  go_simp; refine comes_v ?_; exact ⟨k1, k2, k3, k4, k5, k6, k7, k8, k9, k10⟩))
            (try simp only [Act.put, List.setIfInBounds_toArray, List.set_cons_zero, List.set_cons_succ])
            first | refine wpB_skip 14 rfl (by kernel_rfl) (by kernel_rfl) (by kernel_rfl) (by rfl) ?_ | (refine wpB_text 14 (v := ?_) rfl (by kernel_rfl) (by kernel_rfl) (by kernel_rfl) (by rfl) (fun W hW => ?_) ?_; rotate_left; (obtain ⟨k1, k2, k3, k4, k5, k6, k7, k8, k9, k10⟩ := hW;  go_simp; refine comes_v ?_; exact ⟨k1, k2, k3, k4, k5, k6, k7, k8, k9, k10⟩))
            (try simp only [Act.put, List.setIfInBounds_toArray, List.set_cons_zero, List.set_cons_succ])
            first | refine wpB_skip 15 rfl (by kernel_rfl) (by kernel_rfl) (by kernel_rfl) (by rfl) ?_ | (refine wpB_text 15 (v := ?_) rfl (by kernel_rfl) (by kernel_rfl) (by kernel_rfl) (by rfl) (fun W hW => ?_) ?_; rotate_left; (obtain ⟨k1, k2, k3, k4, k5, k6, k7, k8, k9, k10⟩ := hW;  go_simp; refine comes_v ?_; exact ⟨k1, k2, k3, k4, k5, k6, k7, k8, k9, k10⟩))
            (try simp only [Act.put, List.setIfInBounds_toArray, List.set_cons_zero, List.set_cons_succ])
            first | refine wpB_skip 16 rfl (by kernel_rfl) (by kernel_rfl) (by kernel_rfl) (by rfl) ?_ | (refine wpB_text 16 (v := .int .i64 t3) rfl (by kernel_rfl) (by kernel_rfl) (by kernel_rfl) (by rfl) (fun W hW => ?_) ?_; (obtain ⟨k1, k2, k3, k4, k5, k6, k7, k8, k9, k10⟩ := hW;  go_simp; exact comes_c ( T3.out _) (fun wn hbn => held4 ⟨k1, k2, k3, k4, k5, k6, k7, k8, k9, k10⟩ hbn)))
            (try simp only [Act.put, List.setIfInBounds_toArray, List.set_cons_zero, List.set_cons_succ])
            first | refine wpB_skip 17 rfl (by kernel_rfl) (by kernel_rfl) (by kernel_rfl) (by rfl) ?_ | (refine wpB_text 17 (v := .int .i64 (sgn t3)) rfl (by kernel_rfl) (by kernel_rfl) (by kernel_rfl) (by rfl) (fun W hW => ?_) ?_; (obtain ⟨k1, k2, k3, k4, k5, k6, k7, k8, k9, k10⟩ := hW;  go_simp; exact comes_q ( l1Sign_any _ _) ⟨k1, k2, k3, k4, k5, k6, k7, k8, k9, k10⟩))
            (try simp only [Act.put, List.setIfInBounds_toArray, List.set_cons_zero, List.set_cons_succ])
            first | refine wpB_skip 18 rfl (by kernel_rfl) (by kernel_rfl) (by kernel_rfl) (by rfl) ?_ | (refine wpB_text 18 (v := ?_) rfl (by kernel_rfl) (by kernel_rfl) (by kernel_rfl) (by rfl) (fun W hW => ?_) ?_; rotate_left; (obtain ⟨k1, k2, k3, k4, k5, k6, k7, k8, k9, k10⟩ := hW;  go_simp; refine comes_v ?_; exact ⟨k1, k2, k3, k4, k5, k6, k7, k8, k9, k10⟩))
            (try simp only [Act.put, List.setIfInBounds_toArray, List.set_cons_zero, List.set_cons_succ])
            first | refine wpB_skip 19 rfl (by kernel_rfl) (by kernel_rfl) (by kernel_rfl) (by rfl) ?_ | (refine wpB_text 19 (v := ?_) rfl (by kernel_rfl) (by kernel_rfl) (by kernel_rfl) (by rfl) (fun W hW => ?_) ?_; rotate_left; (obtain ⟨k1, k2, k3, k4, k5, k6, k7, k8, k9, k10⟩ := hW;  go_simp; refine comes_v ?_; exact ⟨k1, k2, k3, k4, k5, k6, k7, k8, k9, k10⟩))
            (try simp only [Act.put, List.setIfInBounds_toArray, List.set_cons_zero, List.set_cons_succ])
            first | refine wpB_skip 20 rfl (by kernel_rfl) (by kernel_rfl) (by kernel_rfl) (by rfl) ?_ | (refine wpB_text 20 (v := ?_) rfl (by kernel_rfl) (by kernel_rfl) (by kernel_rfl) (by rfl) (fun W hW => ?_) ?_; rotate_left; (obtain ⟨k1, k2, k3, k4, k5, k6, k7, k8, k9, k10⟩ := hW;  go_simp; refine comes_v ?_; exact ⟨k1, k2, k3, k4, k5, k6, k7, k8, k9, k10⟩))
            (try simp only [Act.put, List.setIfInBounds_toArray, List.set_cons_zero, List.set_cons_succ])
            first | refine wpB_skip 21 rfl (by kernel_rfl) (by kernel_rfl) (by kernel_rfl) (by rfl) ?_ | (refine wpB_text 21 (v := .int .i64 t4) rfl (by kernel_rfl) (by kernel_rfl) (by kernel_rfl) (by rfl) (fun W hW => ?_) ?_; (obtain ⟨k1, k2, k3, k4, k5, k6, k7, k8, k9, k10⟩ := hW;  go_simp; exact comes_c ( T4.out _) (fun wn hbn => held4 ⟨k1, k2, k3, k4, k5, k6, k7, k8, k9, k10⟩ hbn)))
            (try simp only [Act.put, List.setIfInBounds_toArray, List.set_cons_zero, List.set_cons_succ])
            first | refine wpB_skip 22 rfl (by kernel_rfl) (by kernel_rfl) (by kernel_rfl) (by rfl) ?_ | (refine wpB_text 22 (v := .int .i64 (sgn t4)) rfl (by kernel_rfl) (by kernel_rfl) (by kernel_rfl) (by rfl) (fun W hW => ?_) ?_; (obtain ⟨k1, k2, k3, k4, k5, k6, k7, k8, k9, k10⟩ := hW;  go_simp; exact comes_q ( l1Sign_any _ _) ⟨k1, k2, k3, k4, k5, k6, k7, k8, k9, k10⟩))
            (try simp only [Act.put, List.setIfInBounds_toArray, List.set_cons_zero, List.set_cons_succ])
            first | refine wpB_skip 23 rfl (by kernel_rfl) (by kernel_rfl) (by kernel_rfl) (by rfl) ?_ | (refine wpB_text 23 (v := ?_) rfl (by kernel_rfl) (by kernel_rfl) (by kernel_rfl) (by rfl) (fun W hW => ?_) ?_; rotate_left; (obtain ⟨k1, k2, k3, k4, k5, k6, k7, k8, k9, k10⟩ := hW;  go_simp; refine comes_v ?_; exact ⟨k1, k2, k3, k4, k5, k6, k7, k8, k9, k10⟩))
            (try simp only [Act.put, List.setIfInBounds_toArray, List.set_cons_zero, List.set_cons_succ])
            first | refine wpB_skip 24 rfl (by kernel_rfl) (by kernel_rfl) (by kernel_rfl) (by rfl) ?_ | (refine wpB_text 24 (v := ?_) rfl (by kernel_rfl) (by kernel_rfl) (by kernel_rfl) (by rfl) (fun W hW => ?_) ?_; rotate_left; (obtain ⟨k1, k2, k3, k4, k5, k6, k7, k8, k9, k10⟩ := hW;  go_simp; refine comes_v ?_; exact ⟨k1, k2, k3, k4, k5, k6, k7, k8, k9, k10⟩))
            (try simp only [Act.put, List.setIfInBounds_toArray, List.set_cons_zero, List.set_cons_succ])
            first | refine wpB_skip 25 rfl (by kernel_rfl) (by kernel_rfl) (by kernel_rfl) (by rfl) ?_ | (refine wpB_text 25 (v := ?_) rfl (by kernel_rfl) (by kernel_rfl) (by kernel_rfl) (by rfl) (fun W hW => ?_) ?_; rotate_left; (obtain ⟨k1, k2, k3, k4, k5, k6, k7, k8, k9, k10⟩ := hW;  go_simp; refine comes_v ?_; exact ⟨k1, k2, k3, k4, k5, k6, k7, k8, k9, k10⟩))
            (try simp only [Act.put, List.setIfInBounds_toArray, List.set_cons_zero, List.set_cons_succ])
            first | refine wpB_skip 26 rfl (by kernel_rfl) (by kernel_rfl) (by kernel_rfl) (by rfl) ?_ | (refine wpB_text 26 (v := ?_) rfl (by kernel_rfl) (by kernel_rfl) (by kernel_rfl) (by rfl) (fun W hW => ?_) ?_; rotate_left; (obtain ⟨k1, k2, k3, k4, k5, k6, k7, k8, k9, k10⟩ := hW;  go_simp; refine comes_v ?_; exact ⟨k1, k2, k3, k4, k5, k6, k7, k8, k9, k10⟩))
            (try simp only [Act.put, List.setIfInBounds_toArray, List.set_cons_zero, List.set_cons_succ])
            refine wpB_done (by kernel_rfl) ?_ _
            intro W hW; obtain ⟨k1, k2, k3, k4, k5, k6, k7, k8, k9, k10⟩ := hW
            clear e1 e2
            go_wp2_with fail
            go_ret
            exact ⟨ret_bool (by simp [hm]), k1⟩
        · refine (K4.out _).mono ?_; rintro e w4 ⟨rfl, hb4⟩
          obtain ⟨hc4, hf4⟩ := bcell hb4
          have z4_0 : w.heap.size < w4.heap.size := by (have := hb4.size; omega)
          have z4_1 : w.heap.size + 1 < w4.heap.size := by (have := hb4.size; omega)
          have z4_2 : w.heap.size + 2 < w4.heap.size := by (have := hb4.size; omega)
          have z4_3 : w.heap.size + 3 < w4.heap.size := by (have := hb4.size; omega)
          have B4 : Below w.heap.size w w4 := B3.trans (hb4.mono (by have := B3.size; omega))
          go_wp2_with fail
          go_ret
          exact ⟨rfl, B4⟩
      · refine (K3.out _).mono ?_; rintro e w3 ⟨rfl, hb3⟩
        obtain ⟨hc3, hf3⟩ := bcell hb3
        have z3_0 : w.heap.size < w3.heap.size := by (have := hb3.size; omega)
        have z3_1 : w.heap.size + 1 < w3.heap.size := by (have := hb3.size; omega)
        have z3_2 : w.heap.size + 2 < w3.heap.size := by (have := hb3.size; omega)
        have z3_3 : w.heap.size + 3 < w3.heap.size := by (have := hb3.size; omega)
        have B3 : Below w.heap.size w w3 := B2.trans (hb3.mono (by have := B2.size; omega))
        go_wp2_with fail
        go_ret
        exact ⟨rfl, B3⟩
    · refine (K2.out _).mono ?_; rintro e w2 ⟨rfl, hb2⟩
      obtain ⟨hc2, hf2⟩ := bcell hb2
      have z2_0 : w.heap.size < w2.heap.size := by (have := hb2.size; omega)
      have z2_1 : w.heap.size + 1 < w2.heap.size := by (have := hb2.size; omega)
      have z2_2 : w.heap.size + 2 < w2.heap.size := by (have := hb2.size; omega)
      have z2_3 : w.heap.size + 3 < w2.heap.size := by (have := hb2.size; omega)
      have B2 : Below w.heap.size w w2 := B1.trans (hb2.mono (by have := B1.size; omega))
      go_wp2_with fail
      go_ret
      exact ⟨rfl, B2⟩
  · go_enter Try.func63, Try.ntmps63
    go_wp2_with fail
    refine (K1.out _).mono ?_; rintro e w1 ⟨rfl, hb1⟩
    obtain ⟨hc1, hf1⟩ := bcell hb1
    have z1_0 : w.heap.size < w1.heap.size := by (have := hb1.size; simp at this; omega)
    have z1_1 : w.heap.size + 1 < w1.heap.size := by (have := hb1.size; simp at this; omega)
    have z1_2 : w.heap.size + 2 < w1.heap.size := by (have := hb1.size; simp at this; omega)
    have z1_3 : w.heap.size + 3 < w1.heap.size := by (have := hb1.size; simp at this; omega)
    have B1 : Below w.heap.size w w1 := (Below.alloc (Below.alloc (Below.alloc (Below.alloc (Below.refl _ _) (by simp <;> omega) _) (by simp <;> omega) _) (by simp <;> omega) _) (by simp <;> omega) _).trans (hb1.mono (by simp <;> omega))
    go_wp2_with fail
    go_ret
    exact ⟨rfl, B1⟩
end Go.Proofs.Ytjkfdcjfoliboaa
/- contract: the model's test of a polygon -/
namespace Go.Proofs.Ytjkfdcjfoliboaa
open Go.ChangeShapes Go.WideShapes Go.ChangeAt Go.RowKit Go.Joins
set_option linter.unusedVariables false
set_option linter.unusedSimpArgs false
set_option maxRecDepth 4000
set_option maxRecDepth 100000 in
set_option maxHeartbeats 4000000 in
theorem pgGood_any (A : Option Addr) (c : Nat) (l : List (Int × Int)) (w : World) (hn : l.length ≤ 1048576) (hcap : l.length ≤ c) (hc2 : c ≤ 9223372036854775807) (hR : Rd w w.heap.size A l) :
    Calls Try.prog 36 #[.slice A l.length c] w fun e w' => e = .returned (.bool (goodB l)) ∧ Below w.heap.size w w' := by
  by_cases hfew : 3 ≤ l.length ∧ l.length ≤ 10
  · have HR := Lib.hid hR
    clear hR
    have hL1 : ((3 : Int) ≤ (l.length : Int)) := by omega
    have hL2 : ((l.length : Int) ≤ 10) := by omega
    have HG := Lib.hid (fun h => goodB_false (l := l) h)
    have HT := Lib.hid (fun h => goodB_true (l := l) h)
    clear hfew
    have hrd : ∀ i, i < l.length → ∃ b off, A = some ⟨b, off, none⟩ ∧ b < w.heap.size ∧ ∀ i, i < l.length → w.cell? ⟨b, off + i * 2, none⟩ = some (.int .i64 (vx l i).1) ∧ w.cell? ⟨b, off + i * 2 + 1, none⟩ = some (.int .i64 (vx l i).2) := fun i hi => by
      obtain ⟨b, off, e, hb, hc⟩ := HR.out (by omega)
      exact ⟨b, off, e, hb, fun i hi => hc i _ (vx_get hi)⟩
    obtain ⟨b, off, rfl, hb, hcell⟩ := hrd 0 (by omega)
    have HC := Lib.hid hcell
    clear hrd hcell HR
    generalize hN : l.length = n at *
    have HN := Lib.hid hN
    clear hN
    go_enter Try.func36, Try.ntmps36
    go_wp2_with fail
    refine (l1In_any _ _ _ _).mono ?_; rintro e _ ⟨rfl, rfl⟩
    go_wp2_with fail
    go_loopg [19] n (fun g i wr => ∃ k : Nat, k ≤ n ∧ g = n - k ∧ i = .int .i64 k ∧ Below w.heap.size w wr ∧ Hid (Fine l k))
    case atStart => exact ⟨0, Nat.zero_le _, rfl, rfl, Below.refl _ _, Lib.hid (fun i h => absurd h (Nat.not_lt_zero _))⟩
    case round =>
      obtain ⟨k, hk, hg, rfl, hB, hF⟩ := hrel
      rename World => wo
      have HGK := Lib.hid hg
      clear hg
      by_cases hlt : k < n
      · have hq1 : wo.cell? ⟨b, off + k * 2, none⟩ = some (.int .i64 (vx l k).1) := (hB.cell (p := ⟨b, off + k * 2, none⟩) hb).trans (HC.out k hlt).1
        have hq2 : wo.cell? ⟨b, off + k * 2 + 1, none⟩ = some (.int .i64 (vx l k).2) := (hB.cell (p := ⟨b, off + k * 2 + 1, none⟩) hb).trans (HC.out k hlt).2
        have K1 := Lib.hid (fun W => pgIs_any (vx l k).1 (vx l k).2 W)
        have hzB := hB.size
        by_cases hpg : isPegB (vx l k).1 (vx l k).2 = true
        · rw [hpg] at K1
          have HPG := Lib.hid hpg
          clear hpg
          go_wp2_with fail
          refine (K1.out _).mono ?_; rintro e w1 ⟨rfl, hb1⟩
          have B1 := (Below.alloc hB hzB (.cells #[.int .i64 (vx l k).1, .int .i64 (vx l k).2] 34)).trans (hb1.mono (by simp; omega))
          have hz1 : wo.heap.size < w1.heap.size := by (have := hb1.size; simp at this; omega)
          have x1 : w1.cell? ⟨wo.heap.size, 0, none⟩ = some (.int .i64 (vx l k).1) := ((bcell hb1).1 _ _ (by simp)).trans (by go_simp)
          have x2 : w1.cell? ⟨wo.heap.size, 1, none⟩ = some (.int .i64 (vx l k).2) := ((bcell hb1).1 _ _ (by simp)).trans (by go_simp)
          clear hq1 hq2 K1 hb1
          go_wp2_with fail
          go_loopg [31] k (fun g2 j wi => ∃ m : Nat, m ≤ k ∧ g2 = k - m ∧ j = .int .i64 m ∧ Below w.heap.size w wi ∧ wo.heap.size < wi.heap.size ∧ wi.cell? ⟨wo.heap.size, 0, none⟩ = some (.int .i64 (vx l k).1) ∧ wi.cell? ⟨wo.heap.size, 1, none⟩ = some (.int .i64 (vx l k).2) ∧ Hid (∀ j, j < m → vx l k ≠ vx l j))
          case atStart => exact ⟨0, Nat.zero_le _, rfl, rfl, B1, hz1, x1, x2, Lib.hid (fun j h => absurd h (Nat.not_lt_zero _))⟩
          case round =>
            obtain ⟨m, hm, hg2, rfl, hBi, hzi, y1, y2, hD⟩ := hrel
            have HGM := Lib.hid hg2
            clear hg2 x1 x2 B1 hz1
            by_cases hlm : m < k
            · obtain ⟨q1, q2, hqe, hq1, hq2⟩ : ∃ q1 q2, vx l m = (q1, q2) ∧ wr.cell? ⟨b, off + m * 2, none⟩ = some (.int .i64 q1) ∧ wr.cell? ⟨b, off + m * 2 + 1, none⟩ = some (.int .i64 q2) :=
                ⟨(vx l m).1, (vx l m).2, rfl, (hBi.cell (p := ⟨b, off + m * 2, none⟩) hb).trans (HC.out m (by omega)).1, (hBi.cell (p := ⟨b, off + m * 2 + 1, none⟩) hb).trans (HC.out m (by omega)).2⟩
              have HQE := Lib.hid hqe
              clear hqe
              by_cases heq : (vx l k).1 = q1 ∧ (vx l k).2 = q2
              · have hng : Hid (goodB l = false) := Lib.hid (HG.out (fun h => h.diff k m hlm (by have := HN.out; omega) (by rw [HQE.out]; exact Prod.ext heq.1 heq.2)))
                obtain ⟨rfl, rfl⟩ := heq
                have B2 := Below.alloc hBi hBi.size (.cells #[.int .i64 (vx l k).1, .int .i64 (vx l k).2] 34)
                go_wp2_with fail
                go_ret
                exact ⟨ret_bool hng.out.symm, B2⟩
              · have hD2 : Hid (∀ j, j < m + 1 → vx l k ≠ vx l j) := Lib.hid (fun j hj => by
                  by_cases hjm : j = m
                  · subst hjm; intro e; rw [HQE.out] at e; exact heq ⟨by rw [e], by rw [e]⟩
                  · exact hD.out j (by omega))
                have B2 := Below.alloc hBi hBi.size (.cells #[.int .i64 q1, .int .i64 q2] 34)
                have z2 : wo.heap.size < (wr.alloc (.cells #[.int .i64 q1, .int .i64 q2] 34)).heap.size := by simp; omega
                have Y3 := Lib.hid ((World.cell?_alloc_lt wr (.cells #[.int .i64 q1, .int .i64 q2] 34) ⟨wo.heap.size, 0, none⟩ hzi).trans y1)
                have Y4 := Lib.hid ((World.cell?_alloc_lt wr (.cells #[.int .i64 q1, .int .i64 q2] 34) ⟨wo.heap.size, 1, none⟩ hzi).trans y2)
                clear hD
                by_cases h1 : (vx l k).1 = q1
                · have h2 : ¬ (vx l k).2 = q2 := fun h => heq ⟨h1, h⟩
                  clear heq
                  subst h1
                  go_wp2_with fail
                  go_roundg (k - (m + 1))
                  case measure => have := HGM.out; omega
                  case rel => exact ⟨m + 1, by omega, rfl, by go_num, B2, z2, Y3.out, Y4.out, hD2⟩
                · clear heq
                  go_wp2_with fail
                  go_roundg (k - (m + 1))
                  case measure => have := HGM.out; omega
                  case rel => exact ⟨m + 1, by omega, rfl, by go_num, B2, z2, Y3.out, Y4.out, hD2⟩
            · have hmk : m = k := by omega
              have hF2 : Hid (Fine l (k + 1)) := Lib.hid (fun i hi => by
                by_cases hik : i = k
                · subst hik; exact ⟨HPG.out, fun j hj => hD.out j (by omega)⟩
                · exact hF.out i (by omega))
              clear hD hF
              go_wp2_with fail
              go_roundg (n - (k + 1))
              case measure => have := HGK.out; omega
              case rel => exact ⟨k + 1, by omega, rfl, by go_num, hBi, hF2⟩
        · have hpf : isPegB (vx l k).1 (vx l k).2 = false := by simpa using hpg
          rw [hpf] at K1
          have hng : Hid (goodB l = false) := Lib.hid (HG.out (fun h => hpg (h.pegs k (by have := HN.out; omega))))
          clear hpg hpf
          go_wp2_with fail
          refine (K1.out _).mono ?_; rintro e w1 ⟨rfl, hb1⟩
          have B1 := (Below.alloc hB hzB (.cells #[.int .i64 (vx l k).1, .int .i64 (vx l k).2] 34)).trans (hb1.mono (by simp; omega))
          go_wp2_with fail
          go_ret
          exact ⟨ret_bool hng.out.symm, B1⟩
      · have hkn : n = k := by omega
        subst hkn
        have HF := hF
        clear hF HGK hlt hk HG
        have HG := Lib.hid (fun h => goodB_false (l := l) h)
        go_wp2_with fail
        go_loopg [42] n (fun g i wr => ∃ k : Nat, k ≤ n ∧ g = n - k ∧ i = .int .i64 k ∧ Below w.heap.size w wr ∧ Hid (Apart l k))
        case atStart => exact ⟨0, Nat.zero_le _, rfl, rfl, hB, Lib.hid (fun i h => absurd h (Nat.not_lt_zero _))⟩
        case round =>
          clear hB
          obtain ⟨k, hk, hg, rfl, hB, hA⟩ := hrel
          rename World => wo
          have HGK := Lib.hid hg
          clear hg
          by_cases hlt : k < n
          · have m1 : (k + 1) % n < n := Nat.mod_lt _ (by omega)
            have m2 : (k + 2) % n < n := Nat.mod_lt _ (by omega)
            have p1 : wo.cell? ⟨b, off + k * 2, none⟩ = some (.int .i64 (vx l k).1) := (hB.cell (p := ⟨b, off + k * 2, none⟩) hb).trans (HC.out k hlt).1
            have p2 : wo.cell? ⟨b, off + k * 2 + 1, none⟩ = some (.int .i64 (vx l k).2) := (hB.cell (p := ⟨b, off + k * 2 + 1, none⟩) hb).trans (HC.out k hlt).2
            have p3 : wo.cell? ⟨b, off + (k + 1) % n * 2, none⟩ = some (.int .i64 (vx l ((k + 1) % n)).1) := (hB.cell (p := ⟨b, off + (k + 1) % n * 2, none⟩) hb).trans (HC.out _ m1).1
            have p4 : wo.cell? ⟨b, off + (k + 1) % n * 2 + 1, none⟩ = some (.int .i64 (vx l ((k + 1) % n)).2) := (hB.cell (p := ⟨b, off + (k + 1) % n * 2 + 1, none⟩) hb).trans (HC.out _ m1).2
            have hzB := hB.size
            have hbo : b < wo.heap.size := by omega
            have i1 : (0 : Int) ≤ ((k : Int) + 1) % (n : Int) := Int.emod_nonneg _ (by omega)
            have i2 : ((k : Int) + 1) % (n : Int) < (n : Int) := Int.emod_lt_of_pos _ (by omega)
            have kp : ∀ W W', (Below w.heap.size w W ∧ wo.heap.size + 1 < W.heap.size ∧ W.cell? ⟨wo.heap.size, 0, none⟩ = some (.int .i64 (vx l k).1) ∧ W.cell? ⟨wo.heap.size, 1, none⟩ = some (.int .i64 (vx l k).2) ∧ W.cell? ⟨wo.heap.size + 1, 0, none⟩ = some (.int .i64 (vx l ((k + 1) % n)).1) ∧ W.cell? ⟨wo.heap.size + 1, 1, none⟩ = some (.int .i64 (vx l ((k + 1) % n)).2)) → Below W.heap.size W W' → (Below w.heap.size w W' ∧ wo.heap.size + 1 < W'.heap.size ∧ W'.cell? ⟨wo.heap.size, 0, none⟩ = some (.int .i64 (vx l k).1) ∧ W'.cell? ⟨wo.heap.size, 1, none⟩ = some (.int .i64 (vx l k).2) ∧ W'.cell? ⟨wo.heap.size + 1, 0, none⟩ = some (.int .i64 (vx l ((k + 1) % n)).1) ∧ W'.cell? ⟨wo.heap.size + 1, 1, none⟩ = some (.int .i64 (vx l ((k + 1) % n)).2)) := fun W W' h hb => by
              obtain ⟨h1, h2, h3, h4, h5, h6⟩ := h
              have hc := (bcell hb).1
              have hz := hb.size
              exact ⟨h1.trans (hb.mono h1.size), by omega, by rw [hc _ _ (by omega), h3], by rw [hc _ _ (by omega), h4], by rw [hc _ _ (by omega), h5], by rw [hc _ _ (by omega), h6]⟩
            have KP := Lib.hid kp
            clear kp
            have bx : (Below w.heap.size w ((wo.alloc (.cells #[.int .i64 (vx l k).1, .int .i64 (vx l k).2] 34)).alloc (.cells #[.int .i64 (vx l ((k + 1) % n)).1, .int .i64 (vx l ((k + 1) % n)).2] 34)) ∧ wo.heap.size + 1 < ((wo.alloc (.cells #[.int .i64 (vx l k).1, .int .i64 (vx l k).2] 34)).alloc (.cells #[.int .i64 (vx l ((k + 1) % n)).1, .int .i64 (vx l ((k + 1) % n)).2] 34)).heap.size ∧ ((wo.alloc (.cells #[.int .i64 (vx l k).1, .int .i64 (vx l k).2] 34)).alloc (.cells #[.int .i64 (vx l ((k + 1) % n)).1, .int .i64 (vx l ((k + 1) % n)).2] 34)).cell? ⟨wo.heap.size, 0, none⟩ = some (.int .i64 (vx l k).1) ∧ ((wo.alloc (.cells #[.int .i64 (vx l k).1, .int .i64 (vx l k).2] 34)).alloc (.cells #[.int .i64 (vx l ((k + 1) % n)).1, .int .i64 (vx l ((k + 1) % n)).2] 34)).cell? ⟨wo.heap.size, 1, none⟩ = some (.int .i64 (vx l k).2) ∧ ((wo.alloc (.cells #[.int .i64 (vx l k).1, .int .i64 (vx l k).2] 34)).alloc (.cells #[.int .i64 (vx l ((k + 1) % n)).1, .int .i64 (vx l ((k + 1) % n)).2] 34)).cell? ⟨wo.heap.size + 1, 0, none⟩ = some (.int .i64 (vx l ((k + 1) % n)).1) ∧ ((wo.alloc (.cells #[.int .i64 (vx l k).1, .int .i64 (vx l k).2] 34)).alloc (.cells #[.int .i64 (vx l ((k + 1) % n)).1, .int .i64 (vx l ((k + 1) % n)).2] 34)).cell? ⟨wo.heap.size + 1, 1, none⟩ = some (.int .i64 (vx l ((k + 1) % n)).2)) :=
              ⟨Below.alloc (Below.alloc hB hzB _) (by simp; omega) _, by simp, by go_simp, by go_simp, by go_simp, by go_simp⟩
            have BX := Lib.hid bx
            clear bx
            have c3 : ∀ W, Below w.heap.size w W → W.cell? ⟨b, off + (k + 2) % n * 2, none⟩ = some (.int .i64 (vx l ((k + 2) % n)).1) ∧ W.cell? ⟨b, off + (k + 2) % n * 2 + 1, none⟩ = some (.int .i64 (vx l ((k + 2) % n)).2) := fun W hW =>
              ⟨(hW.cell (p := ⟨b, off + (k + 2) % n * 2, none⟩) hb).trans (HC.out _ m2).1, (hW.cell (p := ⟨b, off + (k + 2) % n * 2 + 1, none⟩) hb).trans (HC.out _ m2).2⟩
            have C3 := Lib.hid c3
            clear c3
            go_wp2_with fail
            clear p1 p2 p3 p4 i1 i2
            have e1 : IntKind.i64.wrap ((k : Int) + 2) = (k : Int) + 2 := IntWalk.i64_in _ (by omega)
            have e2 : ¬ n = 0 := by omega
            have e3 : (0 : Int) ≤ ((k : Int) + 2) % (n : Int) := Int.emod_nonneg _ (by omega)
            have e4 : ((k : Int) + 2) % (n : Int) < (n : Int) := Int.emod_lt_of_pos _ (by omega)
            have e5 : ((k : Int) + 2).tmod (n : Int) = ((k : Int) + 2) % (n : Int) := Int.tmod_eq_emod_of_nonneg (by omega)
            have e6 : (((k : Int) + 2) % (n : Int)).toNat = (k + 2) % n := by rw [show ((k : Int) + 2) % (n : Int) = (((k + 2) % n : Nat) : Int) by simp]; exact Int.toNat_natCast _
            have z1 := sz_of (x := (vx l k).1) (y := (vx l k).2) (HF.out k hlt).1
            have z2 := sz_of (x := (vx l ((k + 1) % n)).1) (y := (vx l ((k + 1) % n)).2) (HF.out _ m1).1
            have z3 := sz_of (x := (vx l ((k + 2) % n)).1) (y := (vx l ((k + 2) % n)).2) (HF.out _ m2).1
            have T := Lib.hid (fun W => pgTurn_any (vx l k).1 (vx l k).2 (vx l ((k + 1) % n)).1 (vx l ((k + 1) % n)).2 (vx l ((k + 2) % n)).1 (vx l ((k + 2) % n)).2 W z1 z2 z3)
            have ht : twI (vx l k).1 (vx l k).2 (vx l ((k + 1) % n)).1 (vx l ((k + 1) % n)).2 (vx l ((k + 2) % n)).1 (vx l ((k + 2) % n)).2 = twP (vx l k) (vx l (k + 1)) (vx l (k + 2)) := by
              unfold twP; rw [← HN.out, vx_per, vx_per]
            rw [ht] at T
            clear z1 z2 z3 ht
            by_cases hz : twP (vx l k) (vx l (k + 1)) (vx l (k + 2)) = 0
            · rw [hz] at T
              have hng : Hid (goodB l = false) := Lib.hid (HG.out (fun h => h.turn k (by have := HN.out; omega) hz))
              clear hz
              refine wp_region_B (fun W => (Below w.heap.size w W ∧ wo.heap.size + 1 < W.heap.size ∧ W.cell? ⟨wo.heap.size, 0, none⟩ = some (.int .i64 (vx l k).1) ∧ W.cell? ⟨wo.heap.size, 1, none⟩ = some (.int .i64 (vx l k).2) ∧ W.cell? ⟨wo.heap.size + 1, 0, none⟩ = some (.int .i64 (vx l ((k + 1) % n)).1) ∧ W.cell? ⟨wo.heap.size + 1, 1, none⟩ = some (.int .i64 (vx l ((k + 1) % n)).2))) (by kernel_rfl) (KP.out _ _ BX.out ((Below.refl _ _).drew)) ?_
              first | refine wpB_skip 0 rfl (by kernel_rfl) (by kernel_rfl) (by kernel_rfl) (by rfl) ?_ | (refine wpB_text 0 (v := ?_) rfl (by kernel_rfl) (by kernel_rfl) (by kernel_rfl) (by rfl) (fun W hW => ?_) ?_; rotate_left; (obtain ⟨k1, k2, k3, k4, k5, k6⟩ := hW; have c4 := C3.out W k1; go_simp; refine comes_v ?_; exact ⟨k1, k2, k3, k4, k5, k6⟩))
              (try simp only [Act.put, List.setIfInBounds_toArray, List.set_cons_zero, List.set_cons_succ])
              first | refine wpB_skip 1 rfl (by kernel_rfl) (by kernel_rfl) (by kernel_rfl) (by rfl) ?_ | (refine wpB_text 1 (v := ?_) rfl (by kernel_rfl) (by kernel_rfl) (by kernel_rfl) (by rfl) (fun W hW => ?_) ?_; rotate_left; (obtain ⟨k1, k2, k3, k4, k5, k6⟩ := hW; have c4 := C3.out W k1; go_simp; refine comes_v ?_; exact ⟨k1, k2, k3, k4, k5, k6⟩))
              (try simp only [Act.put, List.setIfInBounds_toArray, List.set_cons_zero, List.set_cons_succ])
              first | refine wpB_skip 2 rfl (by kernel_rfl) (by kernel_rfl) (by kernel_rfl) (by rfl) ?_ | (refine wpB_text 2 (v := ?_) rfl (by kernel_rfl) (by kernel_rfl) (by kernel_rfl) (by rfl) (fun W hW => ?_) ?_; rotate_left; (obtain ⟨k1, k2, k3, k4, k5, k6⟩ := hW; have c4 := C3.out W k1; go_simp; refine comes_v ?_; exact ⟨k1, k2, k3, k4, k5, k6⟩))
              (try simp only [Act.put, List.setIfInBounds_toArray, List.set_cons_zero, List.set_cons_succ])
              first | refine wpB_skip 3 rfl (by kernel_rfl) (by kernel_rfl) (by kernel_rfl) (by rfl) ?_ | (refine wpB_text 3 (v := ?_) rfl (by kernel_rfl) (by kernel_rfl) (by kernel_rfl) (by rfl) (fun W hW => ?_) ?_; rotate_left; (obtain ⟨k1, k2, k3, k4, k5, k6⟩ := hW; have c4 := C3.out W k1; go_simp; refine comes_v ?_; exact ⟨k1, k2, k3, k4, k5, k6⟩))
              (try simp only [Act.put, List.setIfInBounds_toArray, List.set_cons_zero, List.set_cons_succ])
              first | refine wpB_skip 4 rfl (by kernel_rfl) (by kernel_rfl) (by kernel_rfl) (by rfl) ?_ | (refine wpB_text 4 (v := ?_) rfl (by kernel_rfl) (by kernel_rfl) (by kernel_rfl) (by rfl) (fun W hW => ?_) ?_; rotate_left; (obtain ⟨k1, k2, k3, k4, k5, k6⟩ := hW; have c4 := C3.out W k1; go_simp; refine comes_v ?_; exact ⟨k1, k2, k3, k4, k5, k6⟩))
              (try simp only [Act.put, List.setIfInBounds_toArray, List.set_cons_zero, List.set_cons_succ])
              first | refine wpB_skip 5 rfl (by kernel_rfl) (by kernel_rfl) (by kernel_rfl) (by rfl) ?_ | (refine wpB_text 5 (v := ?_) rfl (by kernel_rfl) (by kernel_rfl) (by kernel_rfl) (by rfl) (fun W hW => ?_) ?_; rotate_left; (obtain ⟨k1, k2, k3, k4, k5, k6⟩ := hW; have c4 := C3.out W k1; go_simp; refine comes_v ?_; exact ⟨k1, k2, k3, k4, k5, k6⟩))
              (try simp only [Act.put, List.setIfInBounds_toArray, List.set_cons_zero, List.set_cons_succ])
              first | refine wpB_skip 6 rfl (by kernel_rfl) (by kernel_rfl) (by kernel_rfl) (by rfl) ?_ | (refine wpB_text 6 (v := ?_) rfl (by kernel_rfl) (by kernel_rfl) (by kernel_rfl) (by rfl) (fun W hW => ?_) ?_; rotate_left; (obtain ⟨k1, k2, k3, k4, k5, k6⟩ := hW; have c4 := C3.out W k1; go_simp; refine comes_v ?_; exact ⟨k1, k2, k3, k4, k5, k6⟩))
              (try simp only [Act.put, List.setIfInBounds_toArray, List.set_cons_zero, List.set_cons_succ])
              first | refine wpB_skip 7 rfl (by kernel_rfl) (by kernel_rfl) (by kernel_rfl) (by rfl) ?_ | (refine wpB_text 7 (v := ?_) rfl (by kernel_rfl) (by kernel_rfl) (by kernel_rfl) (by rfl) (fun W hW => ?_) ?_; rotate_left; (obtain ⟨k1, k2, k3, k4, k5, k6⟩ := hW; have c4 := C3.out W k1; go_simp; refine comes_v ?_; exact ⟨k1, k2, k3, k4, k5, k6⟩))
              (try simp only [Act.put, List.setIfInBounds_toArray, List.set_cons_zero, List.set_cons_succ])
              first | refine wpB_skip 8 rfl (by kernel_rfl) (by kernel_rfl) (by kernel_rfl) (by rfl) ?_ | (refine wpB_text 8 (v := ?_) rfl (by kernel_rfl) (by kernel_rfl) (by kernel_rfl) (by rfl) (fun W hW => ?_) ?_; rotate_left; (obtain ⟨k1, k2, k3, k4, k5, k6⟩ := hW; have c4 := C3.out W k1; go_simp; refine comes_v ?_; exact ⟨k1, k2, k3, k4, k5, k6⟩))
              (try simp only [Act.put, List.setIfInBounds_toArray, List.set_cons_zero, List.set_cons_succ])
              first | refine wpB_skip 9 rfl (by kernel_rfl) (by kernel_rfl) (by kernel_rfl) (by rfl) ?_ | (refine wpB_text 9 (v := .int .i64 0) rfl (by kernel_rfl) (by kernel_rfl) (by kernel_rfl) (by rfl) (fun W hW => ?_) ?_; (obtain ⟨k1, k2, k3, k4, k5, k6⟩ := hW; have c4 := C3.out W k1; go_simp; exact comes_c ( T.out _) (fun wn hbn => KP.out _ _ ⟨k1, k2, k3, k4, k5, k6⟩ hbn)))
              (try simp only [Act.put, List.setIfInBounds_toArray, List.set_cons_zero, List.set_cons_succ])
              first | refine wpB_skip 10 rfl (by kernel_rfl) (by kernel_rfl) (by kernel_rfl) (by rfl) ?_ | (refine wpB_text 10 (v := ?_) rfl (by kernel_rfl) (by kernel_rfl) (by kernel_rfl) (by rfl) (fun W hW => ?_) ?_; rotate_left; (obtain ⟨k1, k2, k3, k4, k5, k6⟩ := hW; have c4 := C3.out W k1; go_simp; refine comes_v ?_; exact ⟨k1, k2, k3, k4, k5, k6⟩))
              (try simp only [Act.put, List.setIfInBounds_toArray, List.set_cons_zero, List.set_cons_succ])
              refine wpB_done (by kernel_rfl) ?_ _
              intro W hW; obtain ⟨k1, k2, k3, k4, k5, k6⟩ := hW
              go_wp2_with fail
              go_ret
              exact ⟨ret_bool hng.out.symm, k1⟩
            · have HTW : Hid (Turns l k) := Lib.hid hz
              have hzb : (twP (vx l k) (vx l (k + 1)) (vx l (k + 2)) == 0) = false := by simpa using hz
              generalize twP (vx l k) (vx l (k + 1)) (vx l (k + 2)) = t at *
              refine wp_region_B (fun W => (Below w.heap.size w W ∧ wo.heap.size + 1 < W.heap.size ∧ W.cell? ⟨wo.heap.size, 0, none⟩ = some (.int .i64 (vx l k).1) ∧ W.cell? ⟨wo.heap.size, 1, none⟩ = some (.int .i64 (vx l k).2) ∧ W.cell? ⟨wo.heap.size + 1, 0, none⟩ = some (.int .i64 (vx l ((k + 1) % n)).1) ∧ W.cell? ⟨wo.heap.size + 1, 1, none⟩ = some (.int .i64 (vx l ((k + 1) % n)).2))) (by kernel_rfl) (KP.out _ _ BX.out ((Below.refl _ _).drew)) ?_
              first | refine wpB_skip 0 rfl (by kernel_rfl) (by kernel_rfl) (by kernel_rfl) (by rfl) ?_ | (refine wpB_text 0 (v := ?_) rfl (by kernel_rfl) (by kernel_rfl) (by kernel_rfl) (by rfl) (fun W hW => ?_) ?_; rotate_left; (obtain ⟨k1, k2, k3, k4, k5, k6⟩ := hW; have c4 := C3.out W k1; go_simp; refine comes_v ?_; exact ⟨k1, k2, k3, k4, k5, k6⟩))
              (try simp only [Act.put, List.setIfInBounds_toArray, List.set_cons_zero, List.set_cons_succ])
              first | refine wpB_skip 1 rfl (by kernel_rfl) (by kernel_rfl) (by kernel_rfl) (by rfl) ?_ | (refine wpB_text 1 (v := ?_) rfl (by kernel_rfl) (by kernel_rfl) (by kernel_rfl) (by rfl) (fun W hW => ?_) ?_; rotate_left; (obtain ⟨k1, k2, k3, k4, k5, k6⟩ := hW; have c4 := C3.out W k1; go_simp; refine comes_v ?_; exact ⟨k1, k2, k3, k4, k5, k6⟩))
              (try simp only [Act.put, List.setIfInBounds_toArray, List.set_cons_zero, List.set_cons_succ])
              first | refine wpB_skip 2 rfl (by kernel_rfl) (by kernel_rfl) (by kernel_rfl) (by rfl) ?_ | (refine wpB_text 2 (v := ?_) rfl (by kernel_rfl) (by kernel_rfl) (by kernel_rfl) (by rfl) (fun W hW => ?_) ?_; rotate_left; (obtain ⟨k1, k2, k3, k4, k5, k6⟩ := hW; have c4 := C3.out W k1; go_simp; refine comes_v ?_; exact ⟨k1, k2, k3, k4, k5, k6⟩))
              (try simp only [Act.put, List.setIfInBounds_toArray, List.set_cons_zero, List.set_cons_succ])
              first | refine wpB_skip 3 rfl (by kernel_rfl) (by kernel_rfl) (by kernel_rfl) (by rfl) ?_ | (refine wpB_text 3 (v := ?_) rfl (by kernel_rfl) (by kernel_rfl) (by kernel_rfl) (by rfl) (fun W hW => ?_) ?_; rotate_left; (obtain ⟨k1, k2, k3, k4, k5, k6⟩ := hW; have c4 := C3.out W k1; go_simp; refine comes_v ?_; exact ⟨k1, k2, k3, k4, k5, k6⟩))
              (try simp only [Act.put, List.setIfInBounds_toArray, List.set_cons_zero, List.set_cons_succ])
              first | refine wpB_skip 4 rfl (by kernel_rfl) (by kernel_rfl) (by kernel_rfl) (by rfl) ?_ | (refine wpB_text 4 (v := ?_) rfl (by kernel_rfl) (by kernel_rfl) (by kernel_rfl) (by rfl) (fun W hW => ?_) ?_; rotate_left; (obtain ⟨k1, k2, k3, k4, k5, k6⟩ := hW; have c4 := C3.out W k1; go_simp; refine comes_v ?_; exact ⟨k1, k2, k3, k4, k5, k6⟩))
              (try simp only [Act.put, List.setIfInBounds_toArray, List.set_cons_zero, List.set_cons_succ])
              first | refine wpB_skip 5 rfl (by kernel_rfl) (by kernel_rfl) (by kernel_rfl) (by rfl) ?_ | (refine wpB_text 5 (v := ?_) rfl (by kernel_rfl) (by kernel_rfl) (by kernel_rfl) (by rfl) (fun W hW => ?_) ?_; rotate_left; (obtain ⟨k1, k2, k3, k4, k5, k6⟩ := hW; have c4 := C3.out W k1; go_simp; refine comes_v ?_; exact ⟨k1, k2, k3, k4, k5, k6⟩))
              (try simp only [Act.put, List.setIfInBounds_toArray, List.set_cons_zero, List.set_cons_succ])
              first | refine wpB_skip 6 rfl (by kernel_rfl) (by kernel_rfl) (by kernel_rfl) (by rfl) ?_ | (refine wpB_text 6 (v := ?_) rfl (by kernel_rfl) (by kernel_rfl) (by kernel_rfl) (by rfl) (fun W hW => ?_) ?_; rotate_left; (obtain ⟨k1, k2, k3, k4, k5, k6⟩ := hW; have c4 := C3.out W k1; go_simp; refine comes_v ?_; exact ⟨k1, k2, k3, k4, k5, k6⟩))
              (try simp only [Act.put, List.setIfInBounds_toArray, List.set_cons_zero, List.set_cons_succ])
              first | refine wpB_skip 7 rfl (by kernel_rfl) (by kernel_rfl) (by kernel_rfl) (by rfl) ?_ | (refine wpB_text 7 (v := ?_) rfl (by kernel_rfl) (by kernel_rfl) (by kernel_rfl) (by rfl) (fun W hW => ?_) ?_; rotate_left; (obtain ⟨k1, k2, k3, k4, k5, k6⟩ := hW; have c4 := C3.out W k1; go_simp; refine comes_v ?_; exact ⟨k1, k2, k3, k4, k5, k6⟩))
              (try simp only [Act.put, List.setIfInBounds_toArray, List.set_cons_zero, List.set_cons_succ])
              first | refine wpB_skip 8 rfl (by kernel_rfl) (by kernel_rfl) (by kernel_rfl) (by rfl) ?_ | (refine wpB_text 8 (v := ?_) rfl (by kernel_rfl) (by kernel_rfl) (by kernel_rfl) (by rfl) (fun W hW => ?_) ?_; rotate_left; (obtain ⟨k1, k2, k3, k4, k5, k6⟩ := hW; have c4 := C3.out W k1; go_simp; refine comes_v ?_; exact ⟨k1, k2, k3, k4, k5, k6⟩))
              (try simp only [Act.put, List.setIfInBounds_toArray, List.set_cons_zero, List.set_cons_succ])
              first | refine wpB_skip 9 rfl (by kernel_rfl) (by kernel_rfl) (by kernel_rfl) (by rfl) ?_ | (refine wpB_text 9 (v := .int .i64 t) rfl (by kernel_rfl) (by kernel_rfl) (by kernel_rfl) (by rfl) (fun W hW => ?_) ?_; (obtain ⟨k1, k2, k3, k4, k5, k6⟩ := hW; have c4 := C3.out W k1; go_simp; exact comes_c ( T.out _) (fun wn hbn => KP.out _ _ ⟨k1, k2, k3, k4, k5, k6⟩ hbn)))
              (try simp only [Act.put, List.setIfInBounds_toArray, List.set_cons_zero, List.set_cons_succ])
              first | refine wpB_skip 10 rfl (by kernel_rfl) (by kernel_rfl) (by kernel_rfl) (by rfl) ?_ | (refine wpB_text 10 (v := ?_) rfl (by kernel_rfl) (by kernel_rfl) (by kernel_rfl) (by rfl) (fun W hW => ?_) ?_; rotate_left; (obtain ⟨k1, k2, k3, k4, k5, k6⟩ := hW; have c4 := C3.out W k1; go_simp; refine comes_v ?_; exact ⟨k1, k2, k3, k4, k5, k6⟩))
              (try simp only [Act.put, List.setIfInBounds_toArray, List.set_cons_zero, List.set_cons_succ])
              refine wpB_done (by kernel_rfl) ?_ _
              intro W hW; obtain ⟨k1, k2, k3, k4, k5, k6⟩ := hW
              go_wp2_with fail
              clear e1 e2 e3 e4 e5 e6 T hzb
              go_loopg [11] (n + 1 - (k + 2)) (fun g2 j wi => ∃ m : Nat, k + 2 ≤ m ∧ m ≤ n + 1 ∧ g2 = n + 1 - m ∧ j = .int .i64 m ∧ (Below w.heap.size w wi ∧ wo.heap.size + 1 < wi.heap.size ∧ wi.cell? ⟨wo.heap.size, 0, none⟩ = some (.int .i64 (vx l k).1) ∧ wi.cell? ⟨wo.heap.size, 1, none⟩ = some (.int .i64 (vx l k).2) ∧ wi.cell? ⟨wo.heap.size + 1, 0, none⟩ = some (.int .i64 (vx l ((k + 1) % n)).1) ∧ wi.cell? ⟨wo.heap.size + 1, 1, none⟩ = some (.int .i64 (vx l ((k + 1) % n)).2)) ∧ Hid (∀ q, k + 2 ≤ q → q < m → q < n → q + 1 < n + k → meP (vx l k) (vx l (k + 1)) (vx l q) (vx l (q + 1)) = false))
              case atStart => exact ⟨k + 2, by omega, by omega, rfl, by go_num, ⟨k1, k2, k3, k4, k5, k6⟩, Lib.hid (fun q h1 h2 => absurd h2 (by omega))⟩
              case round =>
                clear k1 k2 k3 k4 k5 k6 BX
                obtain ⟨m, hm1, hm2, hg2, rfl, ⟨k1, k2, k3, k4, k5, k6⟩, hM⟩ := hrel
                have HGM := Lib.hid hg2
                clear hg2
                by_cases c1 : m < n
                · by_cases c2 : m + 1 < n + k
                  · have d1 : ((m : Int) < (n : Int)) := by omega
                    have d2 : ((m : Int) - (k : Int) < (n : Int) - 1) := by omega
                    have m3 : (m + 1) % n < n := Nat.mod_lt _ (by omega)
                    have c3 : ∀ W, Below w.heap.size w W → (W.cell? ⟨b, off + m * 2, none⟩ = some (.int .i64 (vx l m).1) ∧ W.cell? ⟨b, off + m * 2 + 1, none⟩ = some (.int .i64 (vx l m).2)) ∧ W.cell? ⟨b, off + (m + 1) % n * 2, none⟩ = some (.int .i64 (vx l ((m + 1) % n)).1) ∧ W.cell? ⟨b, off + (m + 1) % n * 2 + 1, none⟩ = some (.int .i64 (vx l ((m + 1) % n)).2) := fun W hW =>
                      ⟨⟨(hW.cell (p := ⟨b, off + m * 2, none⟩) hb).trans (HC.out _ c1).1, (hW.cell (p := ⟨b, off + m * 2 + 1, none⟩) hb).trans (HC.out _ c1).2⟩, (hW.cell (p := ⟨b, off + (m + 1) % n * 2, none⟩) hb).trans (HC.out _ m3).1, (hW.cell (p := ⟨b, off + (m + 1) % n * 2 + 1, none⟩) hb).trans (HC.out _ m3).2⟩
                    have C5 := Lib.hid c3
                    clear c3
                    have z1 := sz_of (x := (vx l k).1) (y := (vx l k).2) (HF.out k hlt).1
                    have z2 := sz_of (x := (vx l ((k + 1) % n)).1) (y := (vx l ((k + 1) % n)).2) (HF.out _ m1).1
                    have z3 := sz_of (x := (vx l m).1) (y := (vx l m).2) (HF.out _ c1).1
                    have z4 := sz_of (x := (vx l ((m + 1) % n)).1) (y := (vx l ((m + 1) % n)).2) (HF.out _ m3).1
                    have M := Lib.hid (fun W => pgMeet_any (vx l k).1 (vx l k).2 (vx l ((k + 1) % n)).1 (vx l ((k + 1) % n)).2 (vx l m).1 (vx l m).2 (vx l ((m + 1) % n)).1 (vx l ((m + 1) % n)).2 W z1 z2 z3 z4)
                    have ht : meetB (vx l k).1 (vx l k).2 (vx l ((k + 1) % n)).1 (vx l ((k + 1) % n)).2 (vx l m).1 (vx l m).2 (vx l ((m + 1) % n)).1 (vx l ((m + 1) % n)).2 = meP (vx l k) (vx l (k + 1)) (vx l m) (vx l (m + 1)) := by
                      unfold meP; rw [← HN.out, vx_per, vx_per]
                    rw [ht] at M
                    clear z1 z2 z3 z4 ht
                    have hk0 : (Below w.heap.size w wr ∧ wo.heap.size + 1 < wr.heap.size ∧ wr.cell? ⟨wo.heap.size, 0, none⟩ = some (.int .i64 (vx l k).1) ∧ wr.cell? ⟨wo.heap.size, 1, none⟩ = some (.int .i64 (vx l k).2) ∧ wr.cell? ⟨wo.heap.size + 1, 0, none⟩ = some (.int .i64 (vx l ((k + 1) % n)).1) ∧ wr.cell? ⟨wo.heap.size + 1, 1, none⟩ = some (.int .i64 (vx l ((k + 1) % n)).2))
                      := ⟨k1, k2, k3, k4, k5, k6⟩
                    have HK0 := Lib.hid hk0
                    clear hk0
                    by_cases hmt : meP (vx l k) (vx l (k + 1)) (vx l m) (vx l (m + 1)) = true
                    · rw [hmt] at M
                      have hng : Hid (goodB l = false) := Lib.hid (HG.out (fun h => by have := h.apart k m hm1 (by have := HN.out; omega) (by have := HN.out; omega); rw [hmt] at this; cases this))
                      clear hmt
                      go_wp2_with fail
                      have e1 : IntKind.i64.wrap ((m : Int) + 1) = (m : Int) + 1 := IntWalk.i64_in _ (by omega)
                      have e2 : ¬ n = 0 := by omega
                      have e3 : (0 : Int) ≤ ((m : Int) + 1) % (n : Int) := Int.emod_nonneg _ (by omega)
                      have e4 : ((m : Int) + 1) % (n : Int) < (n : Int) := Int.emod_lt_of_pos _ (by omega)
                      have e5 : ((m : Int) + 1).tmod (n : Int) = ((m : Int) + 1) % (n : Int) := Int.tmod_eq_emod_of_nonneg (by omega)
                      have e6 : (((m : Int) + 1) % (n : Int)).toNat = (m + 1) % n := by rw [show ((m : Int) + 1) % (n : Int) = (((m + 1) % n : Nat) : Int) by simp]; exact Int.toNat_natCast _
                      refine wp_region_B (fun W => (Below w.heap.size w W ∧ wo.heap.size + 1 < W.heap.size ∧ W.cell? ⟨wo.heap.size, 0, none⟩ = some (.int .i64 (vx l k).1) ∧ W.cell? ⟨wo.heap.size, 1, none⟩ = some (.int .i64 (vx l k).2) ∧ W.cell? ⟨wo.heap.size + 1, 0, none⟩ = some (.int .i64 (vx l ((k + 1) % n)).1) ∧ W.cell? ⟨wo.heap.size + 1, 1, none⟩ = some (.int .i64 (vx l ((k + 1) % n)).2))) (by kernel_rfl) (KP.out _ _ HK0.out ((Below.refl _ _).drew)) ?_
                      clear k1 k2 k3 k4 k5 k6
                      first | refine wpB_skip 0 rfl (by kernel_rfl) (by kernel_rfl) (by kernel_rfl) (by rfl) ?_ | (refine wpB_text 0 (v := ?_) rfl (by kernel_rfl) (by kernel_rfl) (by kernel_rfl) (by rfl) (fun W hW => ?_) ?_; rotate_left; (obtain ⟨k1, k2, k3, k4, k5, k6⟩ := hW; have c4 := (C5.out W k1).1; have c5 := (C5.out W k1).2; go_simp; refine comes_v ?_; exact ⟨k1, k2, k3, k4, k5, k6⟩))
                      (try simp only [Act.put, List.setIfInBounds_toArray, List.set_cons_zero, List.set_cons_succ])
                      first | refine wpB_skip 1 rfl (by kernel_rfl) (by kernel_rfl) (by kernel_rfl) (by rfl) ?_ | (refine wpB_text 1 (v := ?_) rfl (by kernel_rfl) (by kernel_rfl) (by kernel_rfl) (by rfl) (fun W hW => ?_) ?_; rotate_left; (obtain ⟨k1, k2, k3, k4, k5, k6⟩ := hW; have c4 := (C5.out W k1).1; have c5 := (C5.out W k1).2; go_simp; refine comes_v ?_; exact ⟨k1, k2, k3, k4, k5, k6⟩))
                      (try simp only [Act.put, List.setIfInBounds_toArray, List.set_cons_zero, List.set_cons_succ])
                      first | refine wpB_skip 2 rfl (by kernel_rfl) (by kernel_rfl) (by kernel_rfl) (by rfl) ?_ | (refine wpB_text 2 (v := ?_) rfl (by kernel_rfl) (by kernel_rfl) (by kernel_rfl) (by rfl) (fun W hW => ?_) ?_; rotate_left; (obtain ⟨k1, k2, k3, k4, k5, k6⟩ := hW; have c4 := (C5.out W k1).1; have c5 := (C5.out W k1).2; go_simp; refine comes_v ?_; exact ⟨k1, k2, k3, k4, k5, k6⟩))
                      (try simp only [Act.put, List.setIfInBounds_toArray, List.set_cons_zero, List.set_cons_succ])
                      first | refine wpB_skip 3 rfl (by kernel_rfl) (by kernel_rfl) (by kernel_rfl) (by rfl) ?_ | (refine wpB_text 3 (v := ?_) rfl (by kernel_rfl) (by kernel_rfl) (by kernel_rfl) (by rfl) (fun W hW => ?_) ?_; rotate_left; (obtain ⟨k1, k2, k3, k4, k5, k6⟩ := hW; have c4 := (C5.out W k1).1; have c5 := (C5.out W k1).2; go_simp; refine comes_v ?_; exact ⟨k1, k2, k3, k4, k5, k6⟩))
                      (try simp only [Act.put, List.setIfInBounds_toArray, List.set_cons_zero, List.set_cons_succ])
                      first | refine wpB_skip 4 rfl (by kernel_rfl) (by kernel_rfl) (by kernel_rfl) (by rfl) ?_ | (refine wpB_text 4 (v := ?_) rfl (by kernel_rfl) (by kernel_rfl) (by kernel_rfl) (by rfl) (fun W hW => ?_) ?_; rotate_left; (obtain ⟨k1, k2, k3, k4, k5, k6⟩ := hW; have c4 := (C5.out W k1).1; have c5 := (C5.out W k1).2; go_simp; refine comes_v ?_; exact ⟨k1, k2, k3, k4, k5, k6⟩))
                      (try simp only [Act.put, List.setIfInBounds_toArray, List.set_cons_zero, List.set_cons_succ])
                      first | refine wpB_skip 5 rfl (by kernel_rfl) (by kernel_rfl) (by kernel_rfl) (by rfl) ?_ | (refine wpB_text 5 (v := ?_) rfl (by kernel_rfl) (by kernel_rfl) (by kernel_rfl) (by rfl) (fun W hW => ?_) ?_; rotate_left; (obtain ⟨k1, k2, k3, k4, k5, k6⟩ := hW; have c4 := (C5.out W k1).1; have c5 := (C5.out W k1).2; go_simp; refine comes_v ?_; exact ⟨k1, k2, k3, k4, k5, k6⟩))
                      (try simp only [Act.put, List.setIfInBounds_toArray, List.set_cons_zero, List.set_cons_succ])
                      first | refine wpB_skip 6 rfl (by kernel_rfl) (by kernel_rfl) (by kernel_rfl) (by rfl) ?_ | (refine wpB_text 6 (v := ?_) rfl (by kernel_rfl) (by kernel_rfl) (by kernel_rfl) (by rfl) (fun W hW => ?_) ?_; rotate_left; (obtain ⟨k1, k2, k3, k4, k5, k6⟩ := hW; have c4 := (C5.out W k1).1; have c5 := (C5.out W k1).2; go_simp; refine comes_v ?_; exact ⟨k1, k2, k3, k4, k5, k6⟩))
                      (try simp only [Act.put, List.setIfInBounds_toArray, List.set_cons_zero, List.set_cons_succ])
                      first | refine wpB_skip 7 rfl (by kernel_rfl) (by kernel_rfl) (by kernel_rfl) (by rfl) ?_ | (refine wpB_text 7 (v := ?_) rfl (by kernel_rfl) (by kernel_rfl) (by kernel_rfl) (by rfl) (fun W hW => ?_) ?_; rotate_left; (obtain ⟨k1, k2, k3, k4, k5, k6⟩ := hW; have c4 := (C5.out W k1).1; have c5 := (C5.out W k1).2; go_simp; refine comes_v ?_; exact ⟨k1, k2, k3, k4, k5, k6⟩))
                      (try simp only [Act.put, List.setIfInBounds_toArray, List.set_cons_zero, List.set_cons_succ])
                      first | refine wpB_skip 8 rfl (by kernel_rfl) (by kernel_rfl) (by kernel_rfl) (by rfl) ?_ | (refine wpB_text 8 (v := ?_) rfl (by kernel_rfl) (by kernel_rfl) (by kernel_rfl) (by rfl) (fun W hW => ?_) ?_; rotate_left; (obtain ⟨k1, k2, k3, k4, k5, k6⟩ := hW; have c4 := (C5.out W k1).1; have c5 := (C5.out W k1).2; go_simp; refine comes_v ?_; exact ⟨k1, k2, k3, k4, k5, k6⟩))
                      (try simp only [Act.put, List.setIfInBounds_toArray, List.set_cons_zero, List.set_cons_succ])
                      first | refine wpB_skip 9 rfl (by kernel_rfl) (by kernel_rfl) (by kernel_rfl) (by rfl) ?_ | (refine wpB_text 9 (v := ?_) rfl (by kernel_rfl) (by kernel_rfl) (by kernel_rfl) (by rfl) (fun W hW => ?_) ?_; rotate_left; (obtain ⟨k1, k2, k3, k4, k5, k6⟩ := hW; have c4 := (C5.out W k1).1; have c5 := (C5.out W k1).2; go_simp; refine comes_v ?_; exact ⟨k1, k2, k3, k4, k5, k6⟩))
                      (try simp only [Act.put, List.setIfInBounds_toArray, List.set_cons_zero, List.set_cons_succ])
                      first | refine wpB_skip 10 rfl (by kernel_rfl) (by kernel_rfl) (by kernel_rfl) (by rfl) ?_ | (refine wpB_text 10 (v := ?_) rfl (by kernel_rfl) (by kernel_rfl) (by kernel_rfl) (by rfl) (fun W hW => ?_) ?_; rotate_left; (obtain ⟨k1, k2, k3, k4, k5, k6⟩ := hW; have c4 := (C5.out W k1).1; have c5 := (C5.out W k1).2; go_simp; refine comes_v ?_; exact ⟨k1, k2, k3, k4, k5, k6⟩))
                      (try simp only [Act.put, List.setIfInBounds_toArray, List.set_cons_zero, List.set_cons_succ])
                      first | refine wpB_skip 11 rfl (by kernel_rfl) (by kernel_rfl) (by kernel_rfl) (by rfl) ?_ | (refine wpB_text 11 (v := ?_) rfl (by kernel_rfl) (by kernel_rfl) (by kernel_rfl) (by rfl) (fun W hW => ?_) ?_; rotate_left; (obtain ⟨k1, k2, k3, k4, k5, k6⟩ := hW; have c4 := (C5.out W k1).1; have c5 := (C5.out W k1).2; go_simp; refine comes_v ?_; exact ⟨k1, k2, k3, k4, k5, k6⟩))
                      (try simp only [Act.put, List.setIfInBounds_toArray, List.set_cons_zero, List.set_cons_succ])
                      first | refine wpB_skip 12 rfl (by kernel_rfl) (by kernel_rfl) (by kernel_rfl) (by rfl) ?_ | (refine wpB_text 12 (v := ?_) rfl (by kernel_rfl) (by kernel_rfl) (by kernel_rfl) (by rfl) (fun W hW => ?_) ?_; rotate_left; (obtain ⟨k1, k2, k3, k4, k5, k6⟩ := hW; have c4 := (C5.out W k1).1; have c5 := (C5.out W k1).2; go_simp; refine comes_v ?_; exact ⟨k1, k2, k3, k4, k5, k6⟩))
                      (try simp only [Act.put, List.setIfInBounds_toArray, List.set_cons_zero, List.set_cons_succ])
                      first | refine wpB_skip 13 rfl (by kernel_rfl) (by kernel_rfl) (by kernel_rfl) (by rfl) ?_ | (refine wpB_text 13 (v := .bool true) rfl (by kernel_rfl) (by kernel_rfl) (by kernel_rfl) (by rfl) (fun W hW => ?_) ?_; (obtain ⟨k1, k2, k3, k4, k5, k6⟩ := hW; have c4 := (C5.out W k1).1; have c5 := (C5.out W k1).2; go_simp; exact comes_c ( M.out _) (fun wn hbn => KP.out _ _ ⟨k1, k2, k3, k4, k5, k6⟩ hbn)))
                      (try simp only [Act.put, List.setIfInBounds_toArray, List.set_cons_zero, List.set_cons_succ])
                      refine wpB_done (by kernel_rfl) ?_ _
                      intro W hW; obtain ⟨k1, k2, k3, k4, k5, k6⟩ := hW
                      clear e1 e2 e3 e4 e5 e6
                      go_wp2_with fail
                      go_ret
                      exact ⟨ret_bool hng.out.symm, k1⟩
                    · have hmf : meP (vx l k) (vx l (k + 1)) (vx l m) (vx l (m + 1)) = false := by simpa using hmt
                      rw [hmf] at M
                      have hM2 : Hid (∀ q, k + 2 ≤ q → q < m + 1 → q < n → q + 1 < n + k → meP (vx l k) (vx l (k + 1)) (vx l q) (vx l (q + 1)) = false) := Lib.hid (fun q h1 h2 h3 h4 => by
                        by_cases hqm : q = m
                        · subst hqm; exact hmf
                        · exact hM.out q h1 (by omega) h3 h4)
                      clear hmt hmf hM
                      go_wp2_with fail
                      have e1 : IntKind.i64.wrap ((m : Int) + 1) = (m : Int) + 1 := IntWalk.i64_in _ (by omega)
                      have e2 : ¬ n = 0 := by omega
                      have e3 : (0 : Int) ≤ ((m : Int) + 1) % (n : Int) := Int.emod_nonneg _ (by omega)
                      have e4 : ((m : Int) + 1) % (n : Int) < (n : Int) := Int.emod_lt_of_pos _ (by omega)
                      have e5 : ((m : Int) + 1).tmod (n : Int) = ((m : Int) + 1) % (n : Int) := Int.tmod_eq_emod_of_nonneg (by omega)
                      have e6 : (((m : Int) + 1) % (n : Int)).toNat = (m + 1) % n := by rw [show ((m : Int) + 1) % (n : Int) = (((m + 1) % n : Nat) : Int) by simp]; exact Int.toNat_natCast _
                      refine wp_region_B (fun W => (Below w.heap.size w W ∧ wo.heap.size + 1 < W.heap.size ∧ W.cell? ⟨wo.heap.size, 0, none⟩ = some (.int .i64 (vx l k).1) ∧ W.cell? ⟨wo.heap.size, 1, none⟩ = some (.int .i64 (vx l k).2) ∧ W.cell? ⟨wo.heap.size + 1, 0, none⟩ = some (.int .i64 (vx l ((k + 1) % n)).1) ∧ W.cell? ⟨wo.heap.size + 1, 1, none⟩ = some (.int .i64 (vx l ((k + 1) % n)).2))) (by kernel_rfl) (KP.out _ _ HK0.out ((Below.refl _ _).drew)) ?_
                      clear k1 k2 k3 k4 k5 k6
                      first | refine wpB_skip 0 rfl (by kernel_rfl) (by kernel_rfl) (by kernel_rfl) (by rfl) ?_ | (refine wpB_text 0 (v := ?_) rfl (by kernel_rfl) (by kernel_rfl) (by kernel_rfl) (by rfl) (fun W hW => ?_) ?_; rotate_left; (obtain ⟨k1, k2, k3, k4, k5, k6⟩ := hW; have c4 := (C5.out W k1).1; have c5 := (C5.out W k1).2; go_simp; refine comes_v ?_; exact ⟨k1, k2, k3, k4, k5, k6⟩))
                      (try simp only [Act.put, List.setIfInBounds_toArray, List.set_cons_zero, List.set_cons_succ])
                      first | refine wpB_skip 1 rfl (by kernel_rfl) (by kernel_rfl) (by kernel_rfl) (by rfl) ?_ | (refine wpB_text 1 (v := ?_) rfl (by kernel_rfl) (by kernel_rfl) (by kernel_rfl) (by rfl) (fun W hW => ?_) ?_; rotate_left; (obtain ⟨k1, k2, k3, k4, k5, k6⟩ := hW; have c4 := (C5.out W k1).1; have c5 := (C5.out W k1).2; go_simp; refine comes_v ?_; exact ⟨k1, k2, k3, k4, k5, k6⟩))
                      (try simp only [Act.put, List.setIfInBounds_toArray, List.set_cons_zero, List.set_cons_succ])
                      first | refine wpB_skip 2 rfl (by kernel_rfl) (by kernel_rfl) (by kernel_rfl) (by rfl) ?_ | (refine wpB_text 2 (v := ?_) rfl (by kernel_rfl) (by kernel_rfl) (by kernel_rfl) (by rfl) (fun W hW => ?_) ?_; rotate_left; (obtain ⟨k1, k2, k3, k4, k5, k6⟩ := hW; have c4 := (C5.out W k1).1; have c5 := (C5.out W k1).2; go_simp; refine comes_v ?_; exact ⟨k1, k2, k3, k4, k5, k6⟩))
                      (try simp only [Act.put, List.setIfInBounds_toArray, List.set_cons_zero, List.set_cons_succ])
                      first | refine wpB_skip 3 rfl (by kernel_rfl) (by kernel_rfl) (by kernel_rfl) (by rfl) ?_ | (refine wpB_text 3 (v := ?_) rfl (by kernel_rfl) (by kernel_rfl) (by kernel_rfl) (by rfl) (fun W hW => ?_) ?_; rotate_left; (obtain ⟨k1, k2, k3, k4, k5, k6⟩ := hW; have c4 := (C5.out W k1).1; have c5 := (C5.out W k1).2; go_simp; refine comes_v ?_; exact ⟨k1, k2, k3, k4, k5, k6⟩))
                      (try simp only [Act.put, List.setIfInBounds_toArray, List.set_cons_zero, List.set_cons_succ])
                      first | refine wpB_skip 4 rfl (by kernel_rfl) (by kernel_rfl) (by kernel_rfl) (by rfl) ?_ | (refine wpB_text 4 (v := ?_) rfl (by kernel_rfl) (by kernel_rfl) (by kernel_rfl) (by rfl) (fun W hW => ?_) ?_; rotate_left; (obtain ⟨k1, k2, k3, k4, k5, k6⟩ := hW; have c4 := (C5.out W k1).1; have c5 := (C5.out W k1).2; go_simp; refine comes_v ?_; exact ⟨k1, k2, k3, k4, k5, k6⟩))
                      (try simp only [Act.put, List.setIfInBounds_toArray, List.set_cons_zero, List.set_cons_succ])
                      first | refine wpB_skip 5 rfl (by kernel_rfl) (by kernel_rfl) (by kernel_rfl) (by rfl) ?_ | (refine wpB_text 5 (v := ?_) rfl (by kernel_rfl) (by kernel_rfl) (by kernel_rfl) (by rfl) (fun W hW => ?_) ?_; rotate_left; (obtain ⟨k1, k2, k3, k4, k5, k6⟩ := hW; have c4 := (C5.out W k1).1; have c5 := (C5.out W k1).2; go_simp; refine comes_v ?_; exact ⟨k1, k2, k3, k4, k5, k6⟩))
                      (try simp only [Act.put, List.setIfInBounds_toArray, List.set_cons_zero, List.set_cons_succ])
                      first | refine wpB_skip 6 rfl (by kernel_rfl) (by kernel_rfl) (by kernel_rfl) (by rfl) ?_ | (refine wpB_text 6 (v := ?_) rfl (by kernel_rfl) (by kernel_rfl) (by kernel_rfl) (by rfl) (fun W hW => ?_) ?_; rotate_left; (obtain ⟨k1, k2, k3, k4, k5, k6⟩ := hW; have c4 := (C5.out W k1).1; have c5 := (C5.out W k1).2; go_simp; refine comes_v ?_; exact ⟨k1, k2, k3, k4, k5, k6⟩))
                      (try simp only [Act.put, List.setIfInBounds_toArray, List.set_cons_zero, List.set_cons_succ])
                      first | refine wpB_skip 7 rfl (by kernel_rfl) (by kernel_rfl) (by kernel_rfl) (by rfl) ?_ | (refine wpB_text 7 (v := ?_) rfl (by kernel_rfl) (by kernel_rfl) (by kernel_rfl) (by rfl) (fun W hW => ?_) ?_; rotate_left; (obtain ⟨k1, k2, k3, k4, k5, k6⟩ := hW; have c4 := (C5.out W k1).1; have c5 := (C5.out W k1).2; go_simp; refine comes_v ?_; exact ⟨k1, k2, k3, k4, k5, k6⟩))
                      (try simp only [Act.put, List.setIfInBounds_toArray, List.set_cons_zero, List.set_cons_succ])
                      first | refine wpB_skip 8 rfl (by kernel_rfl) (by kernel_rfl) (by kernel_rfl) (by rfl) ?_ | (refine wpB_text 8 (v := ?_) rfl (by kernel_rfl) (by kernel_rfl) (by kernel_rfl) (by rfl) (fun W hW => ?_) ?_; rotate_left; (obtain ⟨k1, k2, k3, k4, k5, k6⟩ := hW; have c4 := (C5.out W k1).1; have c5 := (C5.out W k1).2; go_simp; refine comes_v ?_; exact ⟨k1, k2, k3, k4, k5, k6⟩))
                      (try simp only [Act.put, List.setIfInBounds_toArray, List.set_cons_zero, List.set_cons_succ])
                      first | refine wpB_skip 9 rfl (by kernel_rfl) (by kernel_rfl) (by kernel_rfl) (by rfl) ?_ | (refine wpB_text 9 (v := ?_) rfl (by kernel_rfl) (by kernel_rfl) (by kernel_rfl) (by rfl) (fun W hW => ?_) ?_; rotate_left; (obtain ⟨k1, k2, k3, k4, k5, k6⟩ := hW; have c4 := (C5.out W k1).1; have c5 := (C5.out W k1).2; go_simp; refine comes_v ?_; exact ⟨k1, k2, k3, k4, k5, k6⟩))
                      (try simp only [Act.put, List.setIfInBounds_toArray, List.set_cons_zero, List.set_cons_succ])
                      first | refine wpB_skip 10 rfl (by kernel_rfl) (by kernel_rfl) (by kernel_rfl) (by rfl) ?_ | (refine wpB_text 10 (v := ?_) rfl (by kernel_rfl) (by kernel_rfl) (by kernel_rfl) (by rfl) (fun W hW => ?_) ?_; rotate_left; (obtain ⟨k1, k2, k3, k4, k5, k6⟩ := hW; have c4 := (C5.out W k1).1; have c5 := (C5.out W k1).2; go_simp; refine comes_v ?_; exact ⟨k1, k2, k3, k4, k5, k6⟩))
                      (try simp only [Act.put, List.setIfInBounds_toArray, List.set_cons_zero, List.set_cons_succ])
                      first | refine wpB_skip 11 rfl (by kernel_rfl) (by kernel_rfl) (by kernel_rfl) (by rfl) ?_ | (refine wpB_text 11 (v := ?_) rfl (by kernel_rfl) (by kernel_rfl) (by kernel_rfl) (by rfl) (fun W hW => ?_) ?_; rotate_left; (obtain ⟨k1, k2, k3, k4, k5, k6⟩ := hW; have c4 := (C5.out W k1).1; have c5 := (C5.out W k1).2; go_simp; refine comes_v ?_; exact ⟨k1, k2, k3, k4, k5, k6⟩))
                      (try simp only [Act.put, List.setIfInBounds_toArray, List.set_cons_zero, List.set_cons_succ])
                      first | refine wpB_skip 12 rfl (by kernel_rfl) (by kernel_rfl) (by kernel_rfl) (by rfl) ?_ | (refine wpB_text 12 (v := ?_) rfl (by kernel_rfl) (by kernel_rfl) (by kernel_rfl) (by rfl) (fun W hW => ?_) ?_; rotate_left; (obtain ⟨k1, k2, k3, k4, k5, k6⟩ := hW; have c4 := (C5.out W k1).1; have c5 := (C5.out W k1).2; go_simp; refine comes_v ?_; exact ⟨k1, k2, k3, k4, k5, k6⟩))
                      (try simp only [Act.put, List.setIfInBounds_toArray, List.set_cons_zero, List.set_cons_succ])
                      first | refine wpB_skip 13 rfl (by kernel_rfl) (by kernel_rfl) (by kernel_rfl) (by rfl) ?_ | (refine wpB_text 13 (v := .bool false) rfl (by kernel_rfl) (by kernel_rfl) (by kernel_rfl) (by rfl) (fun W hW => ?_) ?_; (obtain ⟨k1, k2, k3, k4, k5, k6⟩ := hW; have c4 := (C5.out W k1).1; have c5 := (C5.out W k1).2; go_simp; exact comes_c ( M.out _) (fun wn hbn => KP.out _ _ ⟨k1, k2, k3, k4, k5, k6⟩ hbn)))
                      (try simp only [Act.put, List.setIfInBounds_toArray, List.set_cons_zero, List.set_cons_succ])
                      refine wpB_done (by kernel_rfl) ?_ _
                      intro W hW; obtain ⟨k1, k2, k3, k4, k5, k6⟩ := hW
                      clear e1 e2 e3 e4 e5 e6
                      go_wp2_with fail
                      go_roundg (n + 1 - (m + 1))
                      case measure => have := HGM.out; omega
                      case rel => exact ⟨m + 1, by omega, by omega, rfl, by go_num, ⟨k1, k2, k3, k4, k5, k6⟩, hM2⟩
                  · have d1 : ((m : Int) < (n : Int)) := by omega
                    have d2 : ¬ ((m : Int) - (k : Int) < (n : Int) - 1) := by omega
                    have hA2 : Hid (Apart l (k + 1)) := Lib.hid (fun i hi => by
                      by_cases hik : i = k
                      · subst hik; exact ⟨HTW.out, fun q h1 h2 h3 => hM.out q h1 (by have := HN.out; omega) (by have := HN.out; omega) (by have := HN.out; omega)⟩
                      · exact hA.out i (by omega))
                    go_wp2_with fail
                    go_roundg (n - (k + 1))
                    case measure => have := HGK.out; omega
                    case rel => exact ⟨k + 1, by omega, rfl, by go_num, k1, hA2⟩
                · have d1 : ¬ ((m : Int) < (n : Int)) := by omega
                  have hA2 : Hid (Apart l (k + 1)) := Lib.hid (fun i hi => by
                    by_cases hik : i = k
                    · subst hik; exact ⟨HTW.out, fun q h1 h2 h3 => hM.out q h1 (by have := HN.out; omega) (by have := HN.out; omega) (by have := HN.out; omega)⟩
                    · exact hA.out i (by omega))
                  go_wp2_with fail
                  go_roundg (n - (k + 1))
                  case measure => have := HGK.out; omega
                  case rel => exact ⟨k + 1, by omega, rfl, by go_num, k1, hA2⟩
          · have hkn : n = k := by omega
            subst hkn
            have hgood : Hid (goodB l = true) := Lib.hid (HT.out (by
              have hN := HN.out
              exact ⟨by omega, fun i hi => (HF.out i (by omega)).1, fun i j hj hi => (HF.out i (by omega)).2 j hj, fun i hi => (hA.out i (by omega)).1, fun i q h1 h2 h3 => (hA.out i (by omega)).2 q h1 h2 h3⟩))
            go_wp2_with fail
            go_ret
            exact ⟨ret_bool hgood.out.symm, hB⟩
  · have hng : ¬ Good l := fun h => hfew h.few
    rw [goodB_false hng]
    have hf : (decide ((3 : Int) ≤ (l.length : Int)) && decide ((l.length : Int) ≤ 10)) = false := by simp; omega
    go_enter Try.func36, Try.ntmps36
    go_wp2_with fail
    refine (l1In_any _ _ _ _).mono ?_; rintro e _ ⟨rfl, rfl⟩
    rw [hf]
    go_wp2_with fail
    go_ret
    exact ⟨rfl, Below.refl _ _⟩
end Go.Proofs.Ytjkfdcjfoliboaa
/- contract: do all corners turn to one side, the model -/
namespace Go.Proofs.Ytjkfdcjfoliboaa
open Go.ChangeShapes Go.WideShapes Go.ChangeAt Go.RowKit Go.Joins
set_option linter.unusedVariables false
set_option linter.unusedSimpArgs false
set_option maxRecDepth 4000
set_option maxHeartbeats 2000000 in
theorem pgConvex_any (A : Option Addr) (c : Nat) (l : List (Int × Int)) (w : World) (hg : Good l) (hR : Rd w w.heap.size A l) :
    Calls Try.prog 37 #[.slice A l.length c] w fun e w' => e = .returned (.bool (convB l)) ∧ Below w.heap.size w w' := by
  have h3 := hg.few.1
  have hn := hg.few.2
  have KA := Lib.hid (pgArea_any A c l w h3 hn hg.pegs hR)
  have KS := Lib.hid (fun n W => l1Sign_any n W)
  obtain ⟨b, off, rfl, hb, HC⟩ := pts_of (by omega) hR
  have ZP := Lib.hid (fun i => pgs_sz hg.pegs i (by omega))
  have HT := Lib.hid (fun h : Cvx l => convB_true h)
  have HF := Lib.hid (fun h : ¬ Cvx l => convB_false h)
  have HD : Hid (Cvx l = ∀ i, i < l.length → sgn (tN l i) = sgn (areaN l)) := Lib.hid rfl
  clear hg hR
  generalize areaN l = a at *
  generalize hN : l.length = n at *
  have HN := Lib.hid hN
  clear hN
  go_enter Try.func37, Try.ntmps37
  go_wp2_with fail
  refine KA.out.mono ?_; rintro e w1 ⟨rfl, hb1⟩
  go_wp2_with fail
  refine (KS.out a w1).mono ?_; rintro e w2 ⟨rfl, h12⟩
  subst h12
  have hb2 := hb1
  clear KA hb1
  go_wp2_with fail
  go_loopg [14] n (fun g i wr => ∃ k : Nat, k ≤ n ∧ g = n - k ∧ i = .int .i64 k ∧ Below w.heap.size w wr ∧ Hid (∀ i, i < k → sgn (tN l i) = sgn a))
  case atStart => exact ⟨0, by omega, by omega, rfl, hb2, Lib.hid (fun i h => absurd h (Nat.not_lt_zero _))⟩
  case round =>
    clear hb2
    obtain ⟨k, hk, hg, rfl, hB, hH⟩ := hrel
    rename World => wo
    have HGK := Lib.hid hg
    clear hg
    by_cases hlt : k < n
    · have m1 : (k + 1) % n < n := Nat.mod_lt _ (by omega)
      have m2 : (k + 2) % n < n := Nat.mod_lt _ (by omega)
      have T := Lib.hid (fun W => (show Calls Try.prog 62 #[.agg #[.int .i64 (vx l k).1, .int .i64 (vx l k).2], .agg #[.int .i64 (vx l ((k + 1) % n)).1, .int .i64 (vx l ((k + 1) % n)).2], .agg #[.int .i64 (vx l ((k + 2) % n)).1, .int .i64 (vx l ((k + 2) % n)).2]] W fun e w' => e = .returned (.int .i64 (tN l k)) ∧ Below W.heap.size W w' from by
        unfold tN; rw [← HN.out, vx_per, vx_per]; exact pgTurn_any _ _ _ _ _ _ W (ZP.out _) (ZP.out _) (ZP.out _)))
      have HN1 : Hid (sgn (tN l k) ≠ sgn a → convB l = false) := Lib.hid (fun h => HF.out (fun hc => by rw [HD.out] at hc; exact h (hc k (by have := HN.out; omega))))
      have HN2 : Hid (sgn (tN l k) = sgn a → ∀ i, i < k + 1 → sgn (tN l i) = sgn a) := Lib.hid (fun h i hi => by
        by_cases e : i = k
        · subst e; exact h
        · exact hH.out i (by omega))
      clear hH
      have KS1 := Lib.hid (fun W => KS.out (tN l k) W)
      generalize tN l k = t at *
      generalize sgn t = st at *
      generalize sgn a = sa at *
      have hq := HC.out wo hB k hlt
      have hzB := hB.size
      have hb1 := Below.alloc hB hzB (.cells #[.int .i64 (vx l k).1, .int .i64 (vx l k).2] 34)
      go_wp2_with fail
      have e1 : IntKind.i64.wrap ((k : Int) + 1) = (k : Int) + 1 := IntWalk.i64_in _ (by omega)
      have e2 : ¬ n = 0 := by omega
      have e3 : (0 : Int) ≤ ((k : Int) + 1) % (n : Int) := Int.emod_nonneg _ (by omega)
      have e4 : ((k : Int) + 1) % (n : Int) < (n : Int) := Int.emod_lt_of_pos _ (by omega)
      have e5 : ((k : Int) + 1).tmod (n : Int) = ((k : Int) + 1) % (n : Int) := Int.tmod_eq_emod_of_nonneg (by omega)
      have e6 : (((k : Int) + 1) % (n : Int)).toNat = (k + 1) % n := by rw [show ((k : Int) + 1) % (n : Int) = (((k + 1) % n : Nat) : Int) by simp]; exact Int.toNat_natCast _
      have f1 : IntKind.i64.wrap ((k : Int) + 2) = (k : Int) + 2 := IntWalk.i64_in _ (by omega)
      have f3 : (0 : Int) ≤ ((k : Int) + 2) % (n : Int) := Int.emod_nonneg _ (by omega)
      have f4 : ((k : Int) + 2) % (n : Int) < (n : Int) := Int.emod_lt_of_pos _ (by omega)
      have f5 : ((k : Int) + 2).tmod (n : Int) = ((k : Int) + 2) % (n : Int) := Int.tmod_eq_emod_of_nonneg (by omega)
      have f6 : (((k : Int) + 2) % (n : Int)).toNat = (k + 2) % n := by rw [show ((k : Int) + 2) % (n : Int) = (((k + 2) % n : Nat) : Int) by simp]; exact Int.toNat_natCast _
      by_cases hs : st = sa
      · have hh2 := Lib.hid (HN2.out hs)
        clear HN1 HN2
        subst hs
        refine wp_region_B (fun W => Below w.heap.size w W ∧ wo.heap.size < W.heap.size ∧ W.cell? ⟨wo.heap.size, 0, none⟩ = some (.int .i64 (vx l k).1) ∧ W.cell? ⟨wo.heap.size, 1, none⟩ = some (.int .i64 (vx l k).2)) (by kernel_rfl) ⟨hb1.drew, by simp, by go_simp, by go_simp⟩ ?_
        clear hq hb1
        first | refine wpB_skip 0 rfl (by kernel_rfl) (by kernel_rfl) (by kernel_rfl) (by rfl) ?_ | (refine wpB_text 0 (v := ?_) rfl (by kernel_rfl) (by kernel_rfl) (by kernel_rfl) (by rfl) (fun W hW => ?_) ?_; rotate_left; (obtain ⟨k1, k2, k3, k4⟩ := hW; have c1 := HC.out W k1 ((k + 1) % n) m1; have c2 := HC.out W k1 ((k + 2) % n) m2; go_simp; refine comes_v ?_; exact ⟨k1, k2, k3, k4⟩))
        (try simp only [Act.put, List.setIfInBounds_toArray, List.set_cons_zero, List.set_cons_succ])
        first | refine wpB_skip 1 rfl (by kernel_rfl) (by kernel_rfl) (by kernel_rfl) (by rfl) ?_ | (refine wpB_text 1 (v := ?_) rfl (by kernel_rfl) (by kernel_rfl) (by kernel_rfl) (by rfl) (fun W hW => ?_) ?_; rotate_left; (obtain ⟨k1, k2, k3, k4⟩ := hW; have c1 := HC.out W k1 ((k + 1) % n) m1; have c2 := HC.out W k1 ((k + 2) % n) m2; go_simp; refine comes_v ?_; exact ⟨k1, k2, k3, k4⟩))
        (try simp only [Act.put, List.setIfInBounds_toArray, List.set_cons_zero, List.set_cons_succ])
        first | refine wpB_skip 2 rfl (by kernel_rfl) (by kernel_rfl) (by kernel_rfl) (by rfl) ?_ | (refine wpB_text 2 (v := ?_) rfl (by kernel_rfl) (by kernel_rfl) (by kernel_rfl) (by rfl) (fun W hW => ?_) ?_; rotate_left; (obtain ⟨k1, k2, k3, k4⟩ := hW; have c1 := HC.out W k1 ((k + 1) % n) m1; have c2 := HC.out W k1 ((k + 2) % n) m2; go_simp; refine comes_v ?_; exact ⟨k1, k2, k3, k4⟩))
        (try simp only [Act.put, List.setIfInBounds_toArray, List.set_cons_zero, List.set_cons_succ])
        first | refine wpB_skip 3 rfl (by kernel_rfl) (by kernel_rfl) (by kernel_rfl) (by rfl) ?_ | (refine wpB_text 3 (v := ?_) rfl (by kernel_rfl) (by kernel_rfl) (by kernel_rfl) (by rfl) (fun W hW => ?_) ?_; rotate_left; (obtain ⟨k1, k2, k3, k4⟩ := hW; have c1 := HC.out W k1 ((k + 1) % n) m1; have c2 := HC.out W k1 ((k + 2) % n) m2; go_simp; refine comes_v ?_; exact ⟨k1, k2, k3, k4⟩))
        (try simp only [Act.put, List.setIfInBounds_toArray, List.set_cons_zero, List.set_cons_succ])
        first | refine wpB_skip 4 rfl (by kernel_rfl) (by kernel_rfl) (by kernel_rfl) (by rfl) ?_ | (refine wpB_text 4 (v := ?_) rfl (by kernel_rfl) (by kernel_rfl) (by kernel_rfl) (by rfl) (fun W hW => ?_) ?_; rotate_left; (obtain ⟨k1, k2, k3, k4⟩ := hW; have c1 := HC.out W k1 ((k + 1) % n) m1; have c2 := HC.out W k1 ((k + 2) % n) m2; go_simp; refine comes_v ?_; exact ⟨k1, k2, k3, k4⟩))
        (try simp only [Act.put, List.setIfInBounds_toArray, List.set_cons_zero, List.set_cons_succ])
        first | refine wpB_skip 5 rfl (by kernel_rfl) (by kernel_rfl) (by kernel_rfl) (by rfl) ?_ | (refine wpB_text 5 (v := ?_) rfl (by kernel_rfl) (by kernel_rfl) (by kernel_rfl) (by rfl) (fun W hW => ?_) ?_; rotate_left; (obtain ⟨k1, k2, k3, k4⟩ := hW; have c1 := HC.out W k1 ((k + 1) % n) m1; have c2 := HC.out W k1 ((k + 2) % n) m2; go_simp; refine comes_v ?_; exact ⟨k1, k2, k3, k4⟩))
        (try simp only [Act.put, List.setIfInBounds_toArray, List.set_cons_zero, List.set_cons_succ])
        first | refine wpB_skip 6 rfl (by kernel_rfl) (by kernel_rfl) (by kernel_rfl) (by rfl) ?_ | (refine wpB_text 6 (v := ?_) rfl (by kernel_rfl) (by kernel_rfl) (by kernel_rfl) (by rfl) (fun W hW => ?_) ?_; rotate_left; (obtain ⟨k1, k2, k3, k4⟩ := hW; have c1 := HC.out W k1 ((k + 1) % n) m1; have c2 := HC.out W k1 ((k + 2) % n) m2; go_simp; refine comes_v ?_; exact ⟨k1, k2, k3, k4⟩))
        (try simp only [Act.put, List.setIfInBounds_toArray, List.set_cons_zero, List.set_cons_succ])
        first | refine wpB_skip 7 rfl (by kernel_rfl) (by kernel_rfl) (by kernel_rfl) (by rfl) ?_ | (refine wpB_text 7 (v := ?_) rfl (by kernel_rfl) (by kernel_rfl) (by kernel_rfl) (by rfl) (fun W hW => ?_) ?_; rotate_left; (obtain ⟨k1, k2, k3, k4⟩ := hW; have c1 := HC.out W k1 ((k + 1) % n) m1; have c2 := HC.out W k1 ((k + 2) % n) m2; go_simp; refine comes_v ?_; exact ⟨k1, k2, k3, k4⟩))
        (try simp only [Act.put, List.setIfInBounds_toArray, List.set_cons_zero, List.set_cons_succ])
        first | refine wpB_skip 8 rfl (by kernel_rfl) (by kernel_rfl) (by kernel_rfl) (by rfl) ?_ | (refine wpB_text 8 (v := ?_) rfl (by kernel_rfl) (by kernel_rfl) (by kernel_rfl) (by rfl) (fun W hW => ?_) ?_; rotate_left; (obtain ⟨k1, k2, k3, k4⟩ := hW; have c1 := HC.out W k1 ((k + 1) % n) m1; have c2 := HC.out W k1 ((k + 2) % n) m2; go_simp; refine comes_v ?_; exact ⟨k1, k2, k3, k4⟩))
        (try simp only [Act.put, List.setIfInBounds_toArray, List.set_cons_zero, List.set_cons_succ])
        first | refine wpB_skip 9 rfl (by kernel_rfl) (by kernel_rfl) (by kernel_rfl) (by rfl) ?_ | (refine wpB_text 9 (v := ?_) rfl (by kernel_rfl) (by kernel_rfl) (by kernel_rfl) (by rfl) (fun W hW => ?_) ?_; rotate_left; (obtain ⟨k1, k2, k3, k4⟩ := hW; have c1 := HC.out W k1 ((k + 1) % n) m1; have c2 := HC.out W k1 ((k + 2) % n) m2; go_simp; refine comes_v ?_; exact ⟨k1, k2, k3, k4⟩))
        (try simp only [Act.put, List.setIfInBounds_toArray, List.set_cons_zero, List.set_cons_succ])
        first | refine wpB_skip 10 rfl (by kernel_rfl) (by kernel_rfl) (by kernel_rfl) (by rfl) ?_ | (refine wpB_text 10 (v := ?_) rfl (by kernel_rfl) (by kernel_rfl) (by kernel_rfl) (by rfl) (fun W hW => ?_) ?_; rotate_left; (obtain ⟨k1, k2, k3, k4⟩ := hW; have c1 := HC.out W k1 ((k + 1) % n) m1; have c2 := HC.out W k1 ((k + 2) % n) m2; go_simp; refine comes_v ?_; exact ⟨k1, k2, k3, k4⟩))
        (try simp only [Act.put, List.setIfInBounds_toArray, List.set_cons_zero, List.set_cons_succ])
        first | refine wpB_skip 11 rfl (by kernel_rfl) (by kernel_rfl) (by kernel_rfl) (by rfl) ?_ | (refine wpB_text 11 (v := ?_) rfl (by kernel_rfl) (by kernel_rfl) (by kernel_rfl) (by rfl) (fun W hW => ?_) ?_; rotate_left; (obtain ⟨k1, k2, k3, k4⟩ := hW; have c1 := HC.out W k1 ((k + 1) % n) m1; have c2 := HC.out W k1 ((k + 2) % n) m2; go_simp; refine comes_v ?_; exact ⟨k1, k2, k3, k4⟩))
        (try simp only [Act.put, List.setIfInBounds_toArray, List.set_cons_zero, List.set_cons_succ])
        first | refine wpB_skip 12 rfl (by kernel_rfl) (by kernel_rfl) (by kernel_rfl) (by rfl) ?_ | (refine wpB_text 12 (v := ?_) rfl (by kernel_rfl) (by kernel_rfl) (by kernel_rfl) (by rfl) (fun W hW => ?_) ?_; rotate_left; (obtain ⟨k1, k2, k3, k4⟩ := hW; have c1 := HC.out W k1 ((k + 1) % n) m1; have c2 := HC.out W k1 ((k + 2) % n) m2; go_simp; refine comes_v ?_; exact ⟨k1, k2, k3, k4⟩))
        (try simp only [Act.put, List.setIfInBounds_toArray, List.set_cons_zero, List.set_cons_succ])
        first | refine wpB_skip 13 rfl (by kernel_rfl) (by kernel_rfl) (by kernel_rfl) (by rfl) ?_ | (refine wpB_text 13 (v := ?_) rfl (by kernel_rfl) (by kernel_rfl) (by kernel_rfl) (by rfl) (fun W hW => ?_) ?_; rotate_left; (obtain ⟨k1, k2, k3, k4⟩ := hW; have c1 := HC.out W k1 ((k + 1) % n) m1; have c2 := HC.out W k1 ((k + 2) % n) m2; go_simp; refine comes_v ?_; exact ⟨k1, k2, k3, k4⟩))
        (try simp only [Act.put, List.setIfInBounds_toArray, List.set_cons_zero, List.set_cons_succ])
        first | refine wpB_skip 14 rfl (by kernel_rfl) (by kernel_rfl) (by kernel_rfl) (by rfl) ?_ | (refine wpB_text 14 (v := ?_) rfl (by kernel_rfl) (by kernel_rfl) (by kernel_rfl) (by rfl) (fun W hW => ?_) ?_; rotate_left; (obtain ⟨k1, k2, k3, k4⟩ := hW; have c1 := HC.out W k1 ((k + 1) % n) m1; have c2 := HC.out W k1 ((k + 2) % n) m2; go_simp; refine comes_v ?_; exact ⟨k1, k2, k3, k4⟩))
        (try simp only [Act.put, List.setIfInBounds_toArray, List.set_cons_zero, List.set_cons_succ])
        first | refine wpB_skip 15 rfl (by kernel_rfl) (by kernel_rfl) (by kernel_rfl) (by rfl) ?_ | (refine wpB_text 15 (v := .int .i64 t) rfl (by kernel_rfl) (by kernel_rfl) (by kernel_rfl) (by rfl) (fun W hW => ?_) ?_; (obtain ⟨k1, k2, k3, k4⟩ := hW; have c1 := HC.out W k1 ((k + 1) % n) m1; have c2 := HC.out W k1 ((k + 2) % n) m2; go_simp; exact comes_c ( T.out _) (fun wn hbn => box_keep ⟨k1, k2, k3, k4⟩ hbn)))
        (try simp only [Act.put, List.setIfInBounds_toArray, List.set_cons_zero, List.set_cons_succ])
        first | refine wpB_skip 16 rfl (by kernel_rfl) (by kernel_rfl) (by kernel_rfl) (by rfl) ?_ | (refine wpB_text 16 (v := .int .i64 st) rfl (by kernel_rfl) (by kernel_rfl) (by kernel_rfl) (by rfl) (fun W hW => ?_) ?_; (obtain ⟨k1, k2, k3, k4⟩ := hW; have c1 := HC.out W k1 ((k + 1) % n) m1; have c2 := HC.out W k1 ((k + 2) % n) m2; go_simp; exact comes_q ( KS1.out _) ⟨k1, k2, k3, k4⟩))
        (try simp only [Act.put, List.setIfInBounds_toArray, List.set_cons_zero, List.set_cons_succ])
        first | refine wpB_skip 17 rfl (by kernel_rfl) (by kernel_rfl) (by kernel_rfl) (by rfl) ?_ | (refine wpB_text 17 (v := ?_) rfl (by kernel_rfl) (by kernel_rfl) (by kernel_rfl) (by rfl) (fun W hW => ?_) ?_; rotate_left; (obtain ⟨k1, k2, k3, k4⟩ := hW; have c1 := HC.out W k1 ((k + 1) % n) m1; have c2 := HC.out W k1 ((k + 2) % n) m2; go_simp; refine comes_v ?_; exact ⟨k1, k2, k3, k4⟩))
        (try simp only [Act.put, List.setIfInBounds_toArray, List.set_cons_zero, List.set_cons_succ])
        first | refine wpB_skip 18 rfl (by kernel_rfl) (by kernel_rfl) (by kernel_rfl) (by rfl) ?_ | (refine wpB_text 18 (v := ?_) rfl (by kernel_rfl) (by kernel_rfl) (by kernel_rfl) (by rfl) (fun W hW => ?_) ?_; rotate_left; (obtain ⟨k1, k2, k3, k4⟩ := hW; have c1 := HC.out W k1 ((k + 1) % n) m1; have c2 := HC.out W k1 ((k + 2) % n) m2; go_simp; refine comes_v ?_; exact ⟨k1, k2, k3, k4⟩))
        (try simp only [Act.put, List.setIfInBounds_toArray, List.set_cons_zero, List.set_cons_succ])
        refine wpB_done (by kernel_rfl) ?_ _
        intro W hW; obtain ⟨k1, k2, k3, k4⟩ := hW
        clear e1 e2 e3 e4 e5 e6 f1 f3 f4 f5 f6
        go_wp2_with fail
        go_roundg (n - (k + 1))
        case measure => have := HGK.out; omega
        case rel => exact ⟨k + 1, by omega, rfl, by go_num, k1, hh2⟩
      · have hd : (st == sa) = false := by simpa using hs
        have hfl := Lib.hid (HN1.out hs)
        refine wp_region_B (fun W => Below w.heap.size w W ∧ wo.heap.size < W.heap.size ∧ W.cell? ⟨wo.heap.size, 0, none⟩ = some (.int .i64 (vx l k).1) ∧ W.cell? ⟨wo.heap.size, 1, none⟩ = some (.int .i64 (vx l k).2)) (by kernel_rfl) ⟨hb1.drew, by simp, by go_simp, by go_simp⟩ ?_
        clear hq hb1
        first | refine wpB_skip 0 rfl (by kernel_rfl) (by kernel_rfl) (by kernel_rfl) (by rfl) ?_ | (refine wpB_text 0 (v := ?_) rfl (by kernel_rfl) (by kernel_rfl) (by kernel_rfl) (by rfl) (fun W hW => ?_) ?_; rotate_left; (obtain ⟨k1, k2, k3, k4⟩ := hW; have c1 := HC.out W k1 ((k + 1) % n) m1; have c2 := HC.out W k1 ((k + 2) % n) m2; go_simp; refine comes_v ?_; exact ⟨k1, k2, k3, k4⟩))
        (try simp only [Act.put, List.setIfInBounds_toArray, List.set_cons_zero, List.set_cons_succ])
        first | refine wpB_skip 1 rfl (by kernel_rfl) (by kernel_rfl) (by kernel_rfl) (by rfl) ?_ | (refine wpB_text 1 (v := ?_) rfl (by kernel_rfl) (by kernel_rfl) (by kernel_rfl) (by rfl) (fun W hW => ?_) ?_; rotate_left; (obtain ⟨k1, k2, k3, k4⟩ := hW; have c1 := HC.out W k1 ((k + 1) % n) m1; have c2 := HC.out W k1 ((k + 2) % n) m2; go_simp; refine comes_v ?_; exact ⟨k1, k2, k3, k4⟩))
        (try simp only [Act.put, List.setIfInBounds_toArray, List.set_cons_zero, List.set_cons_succ])
        first | refine wpB_skip 2 rfl (by kernel_rfl) (by kernel_rfl) (by kernel_rfl) (by rfl) ?_ | (refine wpB_text 2 (v := ?_) rfl (by kernel_rfl) (by kernel_rfl) (by kernel_rfl) (by rfl) (fun W hW => ?_) ?_; rotate_left; (obtain ⟨k1, k2, k3, k4⟩ := hW; have c1 := HC.out W k1 ((k + 1) % n) m1; have c2 := HC.out W k1 ((k + 2) % n) m2; go_simp; refine comes_v ?_; exact ⟨k1, k2, k3, k4⟩))
        (try simp only [Act.put, List.setIfInBounds_toArray, List.set_cons_zero, List.set_cons_succ])
        first | refine wpB_skip 3 rfl (by kernel_rfl) (by kernel_rfl) (by kernel_rfl) (by rfl) ?_ | (refine wpB_text 3 (v := ?_) rfl (by kernel_rfl) (by kernel_rfl) (by kernel_rfl) (by rfl) (fun W hW => ?_) ?_; rotate_left; (obtain ⟨k1, k2, k3, k4⟩ := hW; have c1 := HC.out W k1 ((k + 1) % n) m1; have c2 := HC.out W k1 ((k + 2) % n) m2; go_simp; refine comes_v ?_; exact ⟨k1, k2, k3, k4⟩))
        (try simp only [Act.put, List.setIfInBounds_toArray, List.set_cons_zero, List.set_cons_succ])
        first | refine wpB_skip 4 rfl (by kernel_rfl) (by kernel_rfl) (by kernel_rfl) (by rfl) ?_ | (refine wpB_text 4 (v := ?_) rfl (by kernel_rfl) (by kernel_rfl) (by kernel_rfl) (by rfl) (fun W hW => ?_) ?_; rotate_left; (obtain ⟨k1, k2, k3, k4⟩ := hW; have c1 := HC.out W k1 ((k + 1) % n) m1; have c2 := HC.out W k1 ((k + 2) % n) m2; go_simp; refine comes_v ?_; exact ⟨k1, k2, k3, k4⟩))
        (try simp only [Act.put, List.setIfInBounds_toArray, List.set_cons_zero, List.set_cons_succ])
        first | refine wpB_skip 5 rfl (by kernel_rfl) (by kernel_rfl) (by kernel_rfl) (by rfl) ?_ | (refine wpB_text 5 (v := ?_) rfl (by kernel_rfl) (by kernel_rfl) (by kernel_rfl) (by rfl) (fun W hW => ?_) ?_; rotate_left; (obtain ⟨k1, k2, k3, k4⟩ := hW; have c1 := HC.out W k1 ((k + 1) % n) m1; have c2 := HC.out W k1 ((k + 2) % n) m2; go_simp; refine comes_v ?_; exact ⟨k1, k2, k3, k4⟩))
        (try simp only [Act.put, List.setIfInBounds_toArray, List.set_cons_zero, List.set_cons_succ])
        first | refine wpB_skip 6 rfl (by kernel_rfl) (by kernel_rfl) (by kernel_rfl) (by rfl) ?_ | (refine wpB_text 6 (v := ?_) rfl (by kernel_rfl) (by kernel_rfl) (by kernel_rfl) (by rfl) (fun W hW => ?_) ?_; rotate_left; (obtain ⟨k1, k2, k3, k4⟩ := hW; have c1 := HC.out W k1 ((k + 1) % n) m1; have c2 := HC.out W k1 ((k + 2) % n) m2; go_simp; refine comes_v ?_; exact ⟨k1, k2, k3, k4⟩))
        (try simp only [Act.put, List.setIfInBounds_toArray, List.set_cons_zero, List.set_cons_succ])
        first | refine wpB_skip 7 rfl (by kernel_rfl) (by kernel_rfl) (by kernel_rfl) (by rfl) ?_ | (refine wpB_text 7 (v := ?_) rfl (by kernel_rfl) (by kernel_rfl) (by kernel_rfl) (by rfl) (fun W hW => ?_) ?_; rotate_left; (obtain ⟨k1, k2, k3, k4⟩ := hW; have c1 := HC.out W k1 ((k + 1) % n) m1; have c2 := HC.out W k1 ((k + 2) % n) m2; go_simp; refine comes_v ?_; exact ⟨k1, k2, k3, k4⟩))
        (try simp only [Act.put, List.setIfInBounds_toArray, List.set_cons_zero, List.set_cons_succ])
        first | refine wpB_skip 8 rfl (by kernel_rfl) (by kernel_rfl) (by kernel_rfl) (by rfl) ?_ | (refine wpB_text 8 (v := ?_) rfl (by kernel_rfl) (by kernel_rfl) (by kernel_rfl) (by rfl) (fun W hW => ?_) ?_; rotate_left; (obtain ⟨k1, k2, k3, k4⟩ := hW; have c1 := HC.out W k1 ((k + 1) % n) m1; have c2 := HC.out W k1 ((k + 2) % n) m2; go_simp; refine comes_v ?_; exact ⟨k1, k2, k3, k4⟩))
        (try simp only [Act.put, List.setIfInBounds_toArray, List.set_cons_zero, List.set_cons_succ])
        first | refine wpB_skip 9 rfl (by kernel_rfl) (by kernel_rfl) (by kernel_rfl) (by rfl) ?_ | (refine wpB_text 9 (v := ?_) rfl (by kernel_rfl) (by kernel_rfl) (by kernel_rfl) (by rfl) (fun W hW => ?_) ?_; rotate_left; (obtain ⟨k1, k2, k3, k4⟩ := hW; have c1 := HC.out W k1 ((k + 1) % n) m1; have c2 := HC.out W k1 ((k + 2) % n) m2; go_simp; refine comes_v ?_; exact ⟨k1, k2, k3, k4⟩))
        (try simp only [Act.put, List.setIfInBounds_toArray, List.set_cons_zero, List.set_cons_succ])
        first | refine wpB_skip 10 rfl (by kernel_rfl) (by kernel_rfl) (by kernel_rfl) (by rfl) ?_ | (refine wpB_text 10 (v := ?_) rfl (by kernel_rfl) (by kernel_rfl) (by kernel_rfl) (by rfl) (fun W hW => ?_) ?_; rotate_left; (obtain ⟨k1, k2, k3, k4⟩ := hW; have c1 := HC.out W k1 ((k + 1) % n) m1; have c2 := HC.out W k1 ((k + 2) % n) m2; go_simp; refine comes_v ?_; exact ⟨k1, k2, k3, k4⟩))
        (try simp only [Act.put, List.setIfInBounds_toArray, List.set_cons_zero, List.set_cons_succ])
        first | refine wpB_skip 11 rfl (by kernel_rfl) (by kernel_rfl) (by kernel_rfl) (by rfl) ?_ | (refine wpB_text 11 (v := ?_) rfl (by kernel_rfl) (by kernel_rfl) (by kernel_rfl) (by rfl) (fun W hW => ?_) ?_; rotate_left; (obtain ⟨k1, k2, k3, k4⟩ := hW; have c1 := HC.out W k1 ((k + 1) % n) m1; have c2 := HC.out W k1 ((k + 2) % n) m2; go_simp; refine comes_v ?_; exact ⟨k1, k2, k3, k4⟩))
        (try simp only [Act.put, List.setIfInBounds_toArray, List.set_cons_zero, List.set_cons_succ])
        first | refine wpB_skip 12 rfl (by kernel_rfl) (by kernel_rfl) (by kernel_rfl) (by rfl) ?_ | (refine wpB_text 12 (v := ?_) rfl (by kernel_rfl) (by kernel_rfl) (by kernel_rfl) (by rfl) (fun W hW => ?_) ?_; rotate_left; (obtain ⟨k1, k2, k3, k4⟩ := hW; have c1 := HC.out W k1 ((k + 1) % n) m1; have c2 := HC.out W k1 ((k + 2) % n) m2; go_simp; refine comes_v ?_; exact ⟨k1, k2, k3, k4⟩))
        (try simp only [Act.put, List.setIfInBounds_toArray, List.set_cons_zero, List.set_cons_succ])
        first | refine wpB_skip 13 rfl (by kernel_rfl) (by kernel_rfl) (by kernel_rfl) (by rfl) ?_ | (refine wpB_text 13 (v := ?_) rfl (by kernel_rfl) (by kernel_rfl) (by kernel_rfl) (by rfl) (fun W hW => ?_) ?_; rotate_left; (obtain ⟨k1, k2, k3, k4⟩ := hW; have c1 := HC.out W k1 ((k + 1) % n) m1; have c2 := HC.out W k1 ((k + 2) % n) m2; go_simp; refine comes_v ?_; exact ⟨k1, k2, k3, k4⟩))
        (try simp only [Act.put, List.setIfInBounds_toArray, List.set_cons_zero, List.set_cons_succ])
        first | refine wpB_skip 14 rfl (by kernel_rfl) (by kernel_rfl) (by kernel_rfl) (by rfl) ?_ | (refine wpB_text 14 (v := ?_) rfl (by kernel_rfl) (by kernel_rfl) (by kernel_rfl) (by rfl) (fun W hW => ?_) ?_; rotate_left; (obtain ⟨k1, k2, k3, k4⟩ := hW; have c1 := HC.out W k1 ((k + 1) % n) m1; have c2 := HC.out W k1 ((k + 2) % n) m2; go_simp; refine comes_v ?_; exact ⟨k1, k2, k3, k4⟩))
        (try simp only [Act.put, List.setIfInBounds_toArray, List.set_cons_zero, List.set_cons_succ])
        first | refine wpB_skip 15 rfl (by kernel_rfl) (by kernel_rfl) (by kernel_rfl) (by rfl) ?_ | (refine wpB_text 15 (v := .int .i64 t) rfl (by kernel_rfl) (by kernel_rfl) (by kernel_rfl) (by rfl) (fun W hW => ?_) ?_; (obtain ⟨k1, k2, k3, k4⟩ := hW; have c1 := HC.out W k1 ((k + 1) % n) m1; have c2 := HC.out W k1 ((k + 2) % n) m2; go_simp; exact comes_c ( T.out _) (fun wn hbn => box_keep ⟨k1, k2, k3, k4⟩ hbn)))
        (try simp only [Act.put, List.setIfInBounds_toArray, List.set_cons_zero, List.set_cons_succ])
        first | refine wpB_skip 16 rfl (by kernel_rfl) (by kernel_rfl) (by kernel_rfl) (by rfl) ?_ | (refine wpB_text 16 (v := .int .i64 st) rfl (by kernel_rfl) (by kernel_rfl) (by kernel_rfl) (by rfl) (fun W hW => ?_) ?_; (obtain ⟨k1, k2, k3, k4⟩ := hW; have c1 := HC.out W k1 ((k + 1) % n) m1; have c2 := HC.out W k1 ((k + 2) % n) m2; go_simp; exact comes_q ( KS1.out _) ⟨k1, k2, k3, k4⟩))
        (try simp only [Act.put, List.setIfInBounds_toArray, List.set_cons_zero, List.set_cons_succ])
        first | refine wpB_skip 17 rfl (by kernel_rfl) (by kernel_rfl) (by kernel_rfl) (by rfl) ?_ | (refine wpB_text 17 (v := ?_) rfl (by kernel_rfl) (by kernel_rfl) (by kernel_rfl) (by rfl) (fun W hW => ?_) ?_; rotate_left; (obtain ⟨k1, k2, k3, k4⟩ := hW; have c1 := HC.out W k1 ((k + 1) % n) m1; have c2 := HC.out W k1 ((k + 2) % n) m2; go_simp; refine comes_v ?_; exact ⟨k1, k2, k3, k4⟩))
        (try simp only [Act.put, List.setIfInBounds_toArray, List.set_cons_zero, List.set_cons_succ])
        first | refine wpB_skip 18 rfl (by kernel_rfl) (by kernel_rfl) (by kernel_rfl) (by rfl) ?_ | (refine wpB_text 18 (v := ?_) rfl (by kernel_rfl) (by kernel_rfl) (by kernel_rfl) (by rfl) (fun W hW => ?_) ?_; rotate_left; (obtain ⟨k1, k2, k3, k4⟩ := hW; have c1 := HC.out W k1 ((k + 1) % n) m1; have c2 := HC.out W k1 ((k + 2) % n) m2; go_simp; refine comes_v ?_; exact ⟨k1, k2, k3, k4⟩))
        (try simp only [Act.put, List.setIfInBounds_toArray, List.set_cons_zero, List.set_cons_succ])
        refine wpB_done (by kernel_rfl) ?_ _
        intro W hW; obtain ⟨k1, k2, k3, k4⟩ := hW
        clear e1 e2 e3 e4 e5 e6 f1 f3 f4 f5 f6
        go_wp2_with fail
        go_ret
        exact ⟨ret_bool hfl.out.symm, k1⟩
    · have hkn : n = k := by omega
      subst hkn
      have hy : Hid (convB l = true) := Lib.hid (HT.out (by rw [HD.out]; exact fun i hi => hH.out i (by have := HN.out; omega)))
      go_wp2_with fail
      go_ret
      exact ⟨ret_bool hy.out.symm, hB⟩
end Go.Proofs.Ytjkfdcjfoliboaa

