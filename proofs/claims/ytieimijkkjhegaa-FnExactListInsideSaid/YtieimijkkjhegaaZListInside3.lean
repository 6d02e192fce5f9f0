/- joined: Zg K La Ls Twz Zp Rt Twx Tyb Ml M Sc Sd Sj Sa Mps Sb Sg Sca Sda Si Zr Zs0 Zm -/
import Derived.Test.YtieimijkkjhegaaZListInside2
import Derived.Deep.LoopGhost
import Derived.Laws.OwnMore
import Derived.OwnWalk
import Derived.RegionTactic
import Derived.StillTail
import Derived.BigRegion
import Derived.Laws.Cover1
import Derived.LoopTactic
import Derived.Deep.QuietTactic
import Derived.BigQuiet
import Derived.Laws.MakeOwn
import Derived.OneCell
/- plain mathematics: how many points are inside -/
namespace Go.Proofs.Ytieimijkkjhegaa.MJ
set_option linter.unusedVariables false
set_option linter.unusedSimpArgs false
open Classical
theorem bezN : ∀ m n : Nat, ∃ u w : Int, u * m + w * n = Nat.gcd m n := by
  intro m n
  induction m, n using Nat.gcd.induction with
  | H0 n => exact ⟨0, 1, by simp⟩
  | H1 m n _ ih =>
    obtain ⟨u, w, h⟩ := ih
    refine ⟨w - u * ((n / m : Nat) : Int), u, ?_⟩
    rw [Nat.gcd_rec, ← h]
    have := Nat.mod_add_div n m
    have e : (n : Int) = ((n % m : Nat) : Int) + (m : Int) * ((n / m : Nat) : Int) := by exact_mod_cast this.symm
    generalize ((n % m : Nat) : Int) = r at *
    generalize ((n / m : Nat) : Int) = q at *
    rw [e]; grind
theorem bez (m n : Int) : ∃ u w : Int, u * m + w * n = Int.gcd m n := by
  obtain ⟨u, w, h⟩ := bezN m.natAbs n.natAbs
  have s : ∀ x : Int, ∃ e : Int, (x.natAbs : Int) = e * x := fun x => by
    by_cases hx : 0 ≤ x
    · exact ⟨1, by omega⟩
    · exact ⟨-1, by omega⟩
  obtain ⟨e, he⟩ := s m
  obtain ⟨f, hf⟩ := s n
  refine ⟨u * e, w * f, ?_⟩
  unfold Int.gcd
  rw [← h, he, hf]; grind
/-- steps of a line -/
def St (a b : Pt) : Nat := Int.gcd (b.1 - a.1) (b.2 - a.2)
theorem St_pos {a b : Pt} (h : a ≠ b) : 0 < St a b := by
  refine Nat.pos_of_ne_zero fun e => h ?_
  unfold St at e
  rw [Int.gcd_eq_zero_iff] at e
  exact Prod.ext (by omega) (by omega)
theorem seg_t {g t s p a b : Int} (hg : 0 < g) (hs : s ≠ 0) (e1 : b - a = g * s) (e2 : p - a = t * s) (h1 : min a b ≤ p) (h2 : p ≤ max a b) : 0 ≤ t ∧ t ≤ g ∧ (t = g → p = b) := by
  have e3 : (g - t) * s = b - p := by rw [Int.sub_mul]; omega
  refine ⟨?_, ?_, fun e => by rw [e, Int.sub_self, Int.zero_mul] at e3; omega⟩
  · by_cases h : 0 < s
    · have := Int.mul_pos hg h
      exact nonneg_of_mul (y := s) (by omega) h
    · have := Int.mul_pos hg (show 0 < -s by omega)
      rw [Int.mul_neg] at this
      exact nonneg_of_mul (y := -s) (by rw [Int.mul_neg]; omega) (by omega)
  · have : 0 ≤ g - t := by
      by_cases h : 0 < s
      · have := Int.mul_pos hg h
        exact nonneg_of_mul (y := s) (by omega) h
      · have := Int.mul_pos hg (show 0 < -s by omega)
        rw [Int.mul_neg] at this
        exact nonneg_of_mul (y := -s) (by rw [Int.mul_neg]; omega) (by omega)
    omega
/-- on a line, but not its last point -/
def Hf (a b p : Pt) : Prop := on a b p ∧ p ≠ b
theorem Hf_iff {a b : Pt} (h : a ≠ b) : ∃ s : Pt, (s.1 ≠ 0 ∨ s.2 ≠ 0) ∧ ∀ p, Hf a b p ↔ ∃ t : Nat, t < St a b ∧ p = (a.1 + t * s.1, a.2 + t * s.2) := by
  have hg := St_pos h
  obtain ⟨u, w, hb⟩ := bez (b.1 - a.1) (b.2 - a.2)
  obtain ⟨s1, h1⟩ := Int.gcd_dvd_left (b.1 - a.1) (b.2 - a.2)
  obtain ⟨s2, h2⟩ := Int.gcd_dvd_right (b.1 - a.1) (b.2 - a.2)
  change b.1 - a.1 = (St a b : Int) * s1 at h1
  change b.2 - a.2 = (St a b : Int) * s2 at h2
  change u * (b.1 - a.1) + w * (b.2 - a.2) = (St a b : Int) at hb
  generalize St a b = g at *
  have hg' : (0 : Int) < g := by omega
  have hb1 : u * s1 + w * s2 = 1 := by
    rw [h1, h2] at hb
    have : (g : Int) * (u * s1 + w * s2) = g * 1 := by rw [Int.mul_one]; grind
    exact Int.eq_of_mul_eq_mul_left (by omega) this
  have hs : s1 ≠ 0 ∨ s2 ≠ 0 := by
    refine Classical.byContradiction fun hn => ?_
    have e1 : s1 = 0 := by omega
    have e2 : s2 = 0 := by omega
    rw [e1, e2] at hb1; omega
  refine ⟨(s1, s2), hs, fun p => ⟨fun ⟨⟨h0, r1, r2, r3, r4⟩, hpb⟩ => ?_, fun ⟨t, ht, e⟩ => ?_⟩⟩
  · have hc : s1 * (p.2 - a.2) = (p.1 - a.1) * s2 := by
      have : (g : Int) * (s1 * (p.2 - a.2)) = g * ((p.1 - a.1) * s2) := by
        unfold tw at h0; rw [h1, h2] at h0; grind
      exact Int.eq_of_mul_eq_mul_left (by omega) this
    have q1 : p.1 - a.1 = (u * (p.1 - a.1) + w * (p.2 - a.2)) * s1 := by grind
    have q2 : p.2 - a.2 = (u * (p.1 - a.1) + w * (p.2 - a.2)) * s2 := by grind
    generalize u * (p.1 - a.1) + w * (p.2 - a.2) = t at *
    have key : ∀ s pi ai bi : Int, s ≠ 0 → bi - ai = g * s → pi - ai = t * s → min ai bi ≤ pi → pi ≤ max ai bi → 0 ≤ t ∧ t ≤ g ∧ (t = g → pi = bi) := fun s pi ai bi h0 h1 h2 h3 h4 => seg_t hg' h0 h1 h2 h3 h4
    have kt : 0 ≤ t ∧ t < g := by
      have fin : 0 ≤ t ∧ t ≤ g := by
        rcases hs with hs | hs
        · have := key s1 _ _ _ hs h1 q1 r1 r2; omega
        · have := key s2 _ _ _ hs h2 q2 r3 r4; omega
      refine ⟨fin.1, ?_⟩
      refine Classical.byContradiction fun hn => hpb ?_
      have et : t = g := by omega
      subst et
      exact Prod.ext (by omega) (by omega)
    refine ⟨t.toNat, by omega, Prod.ext ?_ ?_⟩
    · show p.1 = a.1 + (t.toNat : Int) * s1
      rw [Int.toNat_of_nonneg kt.1]; omega
    · show p.2 = a.2 + (t.toNat : Int) * s2
      rw [Int.toNat_of_nonneg kt.1]; omega
  · subst e
    have ht' : (t : Int) < g := by omega
    have key : ∀ s ai bi : Int, bi - ai = g * s → min ai bi ≤ ai + t * s ∧ ai + t * s ≤ max ai bi ∧ (ai + t * s = bi → s = 0) := by
      intro s ai bi e
      rcases Int.lt_trichotomy s 0 with hs | hs | hs
      · have m1 := Int.mul_nonneg (show (0 : Int) ≤ t by omega) (show 0 ≤ -s by omega)
        have m2 := Int.mul_pos (show (0 : Int) < g - t by omega) (show 0 < -s by omega)
        rw [Int.mul_neg] at m1 m2
        rw [Int.sub_mul] at m2
        refine ⟨by omega, by omega, fun h => by omega⟩
      · subst hs; simp only [Int.mul_zero] at *; refine ⟨by omega, by omega, fun _ => trivial⟩
      · have m1 := Int.mul_nonneg (show (0 : Int) ≤ t by omega) (show 0 ≤ s by omega)
        have m2 := Int.mul_pos (show (0 : Int) < g - t by omega) hs
        rw [Int.sub_mul] at m2
        refine ⟨by omega, by omega, fun h => by omega⟩
    have k1 := key s1 _ _ h1
    have k2 := key s2 _ _ h2
    refine ⟨⟨?_, k1.1, k1.2.1, k2.1, k2.2.1⟩, fun e => ?_⟩
    · show (b.1 - a.1) * (a.2 + t * s2 - a.2) - (a.1 + t * s1 - a.1) * (b.2 - a.2) = 0
      rw [h1, h2]; grind
    · have z1 := k1.2.2 (congrArg Prod.fst e)
      have z2 := k2.2.2 (congrArg Prod.snd e)
      omega
/-- one of a row -/
theorem sm_one {f : Nat → Int} {n k : Nat} (hk : k < n) (h : ∀ i, i < n → i ≠ k → f i = 0) : sm f n = f k := by
  induction n with
  | zero => omega
  | succ n ih =>
    simp only [sm]
    by_cases e : k = n
    · subst e; rw [sm_zero fun i hi => h i (by omega) (by omega)]; omega
    · rw [ih (by omega) (fun i hi hne => h i (by omega) hne), h n (by omega) (by omega)]; omega
theorem bs_point {N : Nat} {q : Pt} (hq : InBox N q) (c : Int) : bs N (fun p => if p = q then c else 0) = c := by
  obtain ⟨x0, x1, y0, y1⟩ := hq
  have e : bx N (q.1 + N).toNat (q.2 + N).toNat = q := Prod.ext (by simp only [bx]; omega) (by simp only [bx]; omega)
  unfold bs
  rw [sm_one (k := (q.2 + N).toNat) (by omega), sm_one (k := (q.1 + N).toNat) (by omega)]
  · rw [e]; exact if_pos rfl
  · intro i hi hne
    refine if_neg ?_
    intro h
    have := congrArg Prod.fst h
    simp only [bx] at this
    omega
  · intro j hj hne
    refine sm_zero fun i hi => if_neg ?_
    intro h
    have := congrArg Prod.snd h
    simp only [bx] at this
    omega
theorem cst (c : Int) (n : Nat) : sm (fun _ => c) n = n * c := by
  induction n with
  | zero => simp [sm]
  | succ n ih => simp only [sm]; rw [ih]; grind
/-- the points of a line, without its last one -/
theorem bs_line {N : Nat} {a b : Pt} (h : a ≠ b) (ha : InBox N a) (hb : InBox N b) : bs N (fun p => if Hf a b p then 1 else 0) = St a b := by
  obtain ⟨s, hs, hi⟩ := Hf_iff h
  have e : bs N (fun p => if Hf a b p then 1 else 0) = bs N (fun p => sm (fun t => if p = (a.1 + t * s.1, a.2 + t * s.2) then 1 else 0) (St a b)) :=
    bs_congr fun p => by
      by_cases hp : Hf a b p
      · rw [if_pos hp]
        obtain ⟨t, ht, e⟩ := (hi p).1 hp
        rw [sm_one ht, if_pos e]
        intro i _ hne
        rw [if_neg]
        intro e'
        rw [e] at e'
        have e1 := congrArg Prod.fst e'
        have e2 := congrArg Prod.snd e'
        simp only [] at e1 e2
        rcases hs with hs | hs
        · have : ((t : Int) - i) * s.1 = 0 := by rw [Int.sub_mul]; omega
          rcases Int.mul_eq_zero.1 this with h | h
          · omega
          · exact hs h
        · have : ((t : Int) - i) * s.2 = 0 := by rw [Int.sub_mul]; omega
          rcases Int.mul_eq_zero.1 this with h | h
          · omega
          · exact hs h
      · rw [if_neg hp]
        exact (sm_zero fun t ht => by rw [if_neg]; intro e; exact hp ((hi p).2 ⟨t, ht, e⟩)).symm
  rw [e, bs_sm]
  have : sm (fun t => bs N (fun p => if p = (a.1 + (t : Int) * s.1, a.2 + (t : Int) * s.2) then 1 else 0)) (St a b) = sm (fun _ => 1) (St a b) :=
    sm_congr fun t ht => by
      refine bs_point ?_ 1
      have hf := ((hi (a.1 + t * s.1, a.2 + t * s.2)).2 ⟨t, ht, rfl⟩).1
      obtain ⟨_, r1, r2, r3, r4⟩ := hf
      obtain ⟨a0, a1, a2, a3⟩ := ha
      obtain ⟨b0, b1, b2, b3⟩ := hb
      refine ⟨?_, ?_, ?_, ?_⟩ <;> omega
  rw [this, cst]; omega
/-- how many lines have a point, each without its last point -/
noncomputable def Bn (v : Nat → Pt) (n : Nat) (p : Pt) : Int := sm (fun k => if Hf (v k) (v (k + 1)) p then 1 else 0) n
theorem Hf_two {v : Nat → Pt} {n : Nat} (h : Poly v n) {p : Pt} {k j : Nat} (hkj : k < j) (hj : j < n) (h1 : Hf (v k) (v (k + 1)) p) (h2 : Hf (v j) (v (j + 1)) p) : False := by
  rcases on_in h1.1 with e | e | hx
  · subst e
    by_cases hc : j + 2 ≤ k + n
    · exact corner_off h k (by omega) hc h2.1
    · have e1 : j + 1 = 0 + n := by omega
      have e0 : k = 0 := by omega
      rw [e1, h.per] at h2
      rw [e0] at h2
      exact h2.2 rfl
  · exact h1.2 e
  · exact mid_off h k hx (by omega) (by omega) h2.1
theorem Hf_bd {v : Nat → Pt} {n : Nat} (h : Poly v n) {p : Pt} (hb : Bd v p) : ∃ k, k < n ∧ Hf (v k) (v (k + 1)) p := by
  have h3 := h.three
  have red : ∀ k, Hf (v k) (v (k + 1)) p → ∃ k, k < n ∧ Hf (v k) (v (k + 1)) p := by
    intro k hk
    refine ⟨k % n, Nat.mod_lt _ (by omega), ?_⟩
    rw [← per_mod h.per k]
    have : v (k % n + 1) = v (k + 1) := by rw [per_mod h.per (k + 1), per_mod h.per (k % n + 1), Nat.mod_add_mod]
    rw [this]; exact hk
  obtain ⟨k, hk⟩ := hb
  by_cases e : p = v (k + 1)
  · exact red (k + 1) ⟨by rw [e]; exact on_left _ _, by rw [e]; exact (h.adj (k + 1)).1⟩
  · exact red k ⟨hk, e⟩
theorem Bn_on {v : Nat → Pt} {n : Nat} (h : Poly v n) {p : Pt} {k : Nat} (hk : k < n) (hf : Hf (v k) (v (k + 1)) p) : Bn v n p = 1 := by
  unfold Bn
  rw [sm_one hk, if_pos hf]
  intro i hi hne
  rw [if_neg]
  intro w
  rcases Nat.lt_or_gt_of_ne hne with hl | hl
  · exact Hf_two h hl hk w hf
  · exact Hf_two h hl hi hf w
theorem Bn_off {v : Nat → Pt} {n : Nat} {p : Pt} (hb : ¬ Bd v p) : Bn v n p = 0 :=
  sm_zero fun i _ => by rw [if_neg]; intro w; exact hb ⟨i, w.1⟩
/-- off the lines both counts are the same -/
def ph (p q : Pt) : Int := if p.2 < q.2 then 1 else if q.2 < p.2 then 0 else if q.1 < p.1 then 1 else 0
theorem both_line {a b p : Pt} (h : ¬ on a b p) : cr a b p - rh a b p = ph p b - ph p a := by
  have lv : tw a b p = 0 → a.2 ≠ b.2 → ¬ ((a.2 ≤ p.2 ∧ p.2 ≤ b.2) ∨ (b.2 ≤ p.2 ∧ p.2 ≤ a.2)) := fun h0 hne hc => h (on_of_level a b p h0 hc hne)
  have t1 : a.2 = p.2 → tw a b p = (a.1 - p.1) * (b.2 - p.2) := fun e => by unfold tw; rw [← e]; grind
  have t2 : b.2 = p.2 → tw a b p = (b.1 - p.1) * (p.2 - a.2) := fun e => by unfold tw; rw [← e]; grind
  have s1 := signs (a.1 - p.1) (b.2 - p.2)
  have s2 := signs (b.1 - p.1) (p.2 - a.2)
  have hz : a.2 = b.2 → b.2 = p.2 → ¬ (min a.1 b.1 ≤ p.1 ∧ p.1 ≤ max a.1 b.1) := fun e1 e2 hc => h ⟨by unfold tw; rw [e1, e2]; grind, hc.1, hc.2, by omega, by omega⟩
  unfold cr rh ph
  generalize (a.1 - p.1) * (b.2 - p.2) = m1 at *
  generalize (b.1 - p.1) * (p.2 - a.2) = m2 at *
  generalize tw a b p = T at *
  clear h
  rcases tri a.2 p.2 with ⟨x1, x2, x3, x4⟩ | ⟨x1, x2, x3, x4⟩ | ⟨x1, x2, x3, x4⟩ <;> rcases tri b.2 p.2 with ⟨y1, y2, y3, y4⟩ | ⟨y1, y2, y3, y4⟩ | ⟨y1, y2, y3, y4⟩
  all_goals
    first
    | (simp only [x1, x2, x3, x4, y1, y2, y3, y4, true_and, false_and, and_false, if_true, if_false]; done)
    | (simp only [x1, x2, x3, x4, y1, y2, y3, y4, true_and, false_and, and_false, if_true, if_false]
       ((repeat' split) <;> omega))
theorem both_off {v : Nat → Pt} {n : Nat} (h : Poly v n) {p : Pt} (hb : ¬ Bd v p) : WN (fun i => ng (v i)) n (ng p) = WN v n p := by
  have e : WN (fun i => ng (v i)) n (ng p) = sm (fun j => rh (v j) (v (j + 1)) p) n := sm_congr fun j _ => cr_ng _ _ _
  have t := sm_tele (fun j => ph p (v j)) n
  have p0 := h.per 0
  rw [Nat.zero_add] at p0
  rw [p0, Int.sub_self] at t
  have : sm (fun j => cr (v j) (v (j + 1)) p - rh (v j) (v (j + 1)) p) n = sm (fun i => ph p (v (i + 1)) - ph p (v i)) n :=
    sm_congr fun j _ => both_line fun w => hb ⟨j, w⟩
  rw [sm_sub, t] at this
  rw [e]
  unfold WN
  omega
/-- what a corner lacks -/
def Lk (v : Nat → Pt) (n k : Nat) : Int := 1 - co (v (k + n - 1)) (v k) (v (k + 1)) - co (ng (v (k + n - 1))) (ng (v k)) (ng (v (k + 1)))
noncomputable def Ins (v : Nat → Pt) (n : Nat) (p : Pt) : Int := if Bd v p then 0 else WN v n p
theorem Vn_all {v : Nat → Pt} {n : Nat} (h : Poly v n) (p : Pt) : Vn v n p = 2 * Ins v n p + ((2 * Cs v n - 1) * Bn v n p + sm (fun k => if p = v k then Lk v n k else 0) n) := by
  have h3 := h.three
  have self : ∀ k, Hf (v k) (v (k + 1)) (v k) := fun k => ⟨on_left _ _, (h.adj k).1⟩
  by_cases hb : Bd v p
  · obtain ⟨k, hk, hf⟩ := Hf_bd h hb
    have uniq : ∀ j, j < n → j ≠ k → ¬ Hf (v j) (v (j + 1)) p := by
      intro j hj hne w
      rcases Nat.lt_or_gt_of_ne hne with hl | hl
      · exact Hf_two h hl hk w hf
      · exact Hf_two h hl hj hf w
    rw [Bn_on h hk hf]
    unfold Ins
    rw [if_pos hb, sm_one hk (fun i hi hne => by rw [if_neg]; intro e; exact uniq i hi hne (e ▸ self i))]
    rcases on_in hf.1 with e | e | hx
    · rw [if_pos e, e, Vn_corner h k]; unfold Lk; omega
    · exact absurd e hf.2
    · rw [if_neg (in_ne hx).1, Vn_in h k hx]; omega
  · rw [Bn_off hb]
    unfold Ins
    rw [if_neg hb, sm_zero (fun k _ => by rw [if_neg]; intro e; exact hb ⟨k, by rw [e]; exact on_left _ _⟩)]
    unfold Vn
    rw [both_off h hb]
    omega
/-- PICK, with its sign -/
theorem pick {v : Nat → Pt} {n N : Nat} (h : Poly v n) (hN : ∀ i, InBox N (v i)) :
    Ar v n = 2 * bs N (Ins v n) + (2 * Cs v n - 1) * (sm (fun k => (St (v k) (v (k + 1)) : Int)) n - 2) := by
  have h3 := h.three
  have e := Ar_eq (n := n) h.per hN
  have e1 : Ar v n = bs N (fun p => 2 * Ins v n p + ((2 * Cs v n - 1) * Bn v n p + sm (fun k => if p = v k then Lk v n k else 0) n)) := by
    rw [e]; exact bs_congr fun p => Vn_all h p
  have mul : ∀ (c : Int) (f : Pt → Int), bs N (fun p => c * f p) = c * bs N f := by
    intro c f
    unfold bs
    rw [← sm_mul]
    exact sm_congr fun j _ => sm_mul _ _ _
  have b : bs N (Bn v n) = sm (fun k => (St (v k) (v (k + 1)) : Int)) n := by
    have : bs N (Bn v n) = sm (fun k => bs N (fun p => if Hf (v k) (v (k + 1)) p then 1 else 0)) n := bs_sm N _ n
    rw [this]
    exact sm_congr fun k _ => bs_line (h.adj k).1 (hN _) (hN _)
  have c : bs N (fun p => sm (fun k => if p = v k then Lk v n k else 0) n) = sm (Lk v n) n := by
    rw [bs_sm]
    exact sm_congr fun k _ => bs_point (hN k) _
  rw [e1, bs_add, bs_add, mul, mul, b, c]
  have l : sm (Lk v n) n = -2 * Tn v n := by
    have shift : ∀ f : Nat → Int, (∀ i, f (i + n) = f i) → sm (fun k => f (k + n - 1)) n = sm f n := by
      intro f hf
      have := sm_shift hf (n - 1)
      rw [← this]
      exact sm_congr fun k _ => by rw [show k + n - 1 = n - 1 + k by omega]
    have s1 := shift (fun k => co (v k) (v (k + 1)) (v (k + 2))) (fun i => by rw [show i + n + 1 = i + 1 + n by omega, show i + n + 2 = i + 2 + n by omega, h.per, h.per, h.per])
    have s2 := shift (fun k => up (v k) (v (k + 1))) (fun i => by rw [show i + n + 1 = i + 1 + n by omega, h.per, h.per])
    have q : sm (Lk v n) n = sm (fun k => (up (v (k + n - 1)) (v (k + n - 1 + 1)) + up (v k) (v (k + 1))) - 2 * co (v (k + n - 1)) (v (k + n - 1 + 1)) (v (k + n - 1 + 2))) n :=
      sm_congr fun k _ => by
        unfold Lk
        rw [co_ng (adj_at h.toSimple k), show k + n - 1 + 1 = k + n by omega, show k + n - 1 + 2 = k + 1 + n by omega, h.per, h.per]
        omega
    rw [q, sm_sub, sm_add, sm_mul, s1, s2]
    unfold Tn
    rw [sm_sub]
    omega
  rw [l, Tn_eq h.toSimple]
  grind
/-- a point inside counts once, to the polygon's side -/
theorem Ins_eq {v : Nat → Pt} {n : Nat} (h : Poly v n) (p : Pt) : Ins v n p = (2 * Cs v n - 1) * (if ¬ Bd v p ∧ WN v n p ≠ 0 then 1 else 0) := by
  unfold Ins
  have c := Cs_01 h.toSimple
  by_cases hb : Bd v p
  · rw [if_pos hb, if_neg (fun w => w.1 hb), Int.mul_zero]
  · rw [if_neg hb]
    have j := jordan h hb
    by_cases hw : WN v n p = 0
    · rw [if_neg (fun w => w.2 hw), hw, Int.mul_zero]
    · rw [if_pos ⟨hb, hw⟩]; omega
/-- PICK'S RULE -/
theorem pick_abs {v : Nat → Pt} {n N : Nat} (h : Poly v n) (hN : ∀ i, InBox N (v i)) :
    (Ar v n).natAbs + 2 = 2 * bs N (fun p => if ¬ Bd v p ∧ WN v n p ≠ 0 then 1 else 0) + sm (fun k => (St (v k) (v (k + 1)) : Int)) n := by
  have p := pick h hN
  have mul : ∀ (c : Int) (f : Pt → Int), bs N (fun p => c * f p) = c * bs N f := by
    intro c f
    unfold bs
    rw [← sm_mul]
    exact sm_congr fun j _ => sm_mul _ _ _
  have e : bs N (Ins v n) = (2 * Cs v n - 1) * bs N (fun p => if ¬ Bd v p ∧ WN v n p ≠ 0 then 1 else 0) := by
    rw [← mul]; exact bs_congr fun p => Ins_eq h p
  rw [e] at p
  have s := Ar_side h hN
  rcases Cs_01 h.toSimple with c | c
  · have := s.2 c
    rw [c] at p
    omega
  · have := s.1 c
    rw [c] at p
    omega
/-- the points on the lines are no more than twice the area and two -/
theorem pick_le {v : Nat → Pt} {n N : Nat} (h : Poly v n) (hN : ∀ i, InBox N (v i)) : sm (fun k => (St (v k) (v (k + 1)) : Int)) n ≤ (Ar v n).natAbs + 2 := by
  have p := pick_abs h hN
  have q : 0 ≤ bs N (fun p => if ¬ Bd v p ∧ WN v n p ≠ 0 then 1 else 0) := bs_nn fun p => by split <;> omega
  omega
/-- a point inside -/
noncomputable def inC (v : Nat → Pt) (n : Nat) (p : Pt) : Int := if ¬ Bd v p ∧ WN v n p ≠ 0 then 1 else 0
theorem inC_1 {v : Nat → Pt} {n : Nat} {p : Pt} (h1 : ¬ Bd v p) (h2 : WN v n p ≠ 0) : inC v n p = 1 := if_pos ⟨h1, h2⟩
theorem inC_0 {v : Nat → Pt} {n : Nat} {p : Pt} (h : Bd v p ∨ WN v n p = 0) : inC v n p = 0 := if_neg fun w => h.elim w.1 w.2
theorem pick_in {v : Nat → Pt} {n N : Nat} (h : Poly v n) (hN : ∀ i, InBox N (v i)) : (Ar v n).natAbs + 2 = 2 * bs N (inC v n) + sm (fun k => (St (v k) (v (k + 1)) : Int)) n := pick_abs h hN
end Go.Proofs.Ytieimijkkjhegaa.MJ
/- lists of points in memory that the call itself made: they may be written; marks -/
namespace Go.Proofs.Ytieimijkkjhegaa
open Go.ChangeShapes Go.WideShapes Go.ChangeAt Go.RowKit Go.Joins
set_option linter.unusedVariables false
set_option linter.unusedSimpArgs false
set_option maxRecDepth 4000
theorem rd_of_set {w : World} {g : Nat} {l : List (Int × Int)} (h : Set w g l.length l.length l) : Rd w w.heap.size (some ⟨g, 0, none⟩) l := by
  intro _
  refine ⟨g, 0, rfl, h.1, fun i p hp => ?_⟩
  rw [Nat.zero_add]
  exact h.2.2 i p (List.getElem?_eq_some_iff.1 hp).1 hp
/-- the slice's cells from address A on hold the points f 0, .., f (n - 1), may be written, and lie from block lo on, below block B -/
def Rw (w : World) (lo B : Nat) (A : Option Addr) (n : Nat) (f : Nat → Int × Int) : Prop :=
  0 < n → ∃ b off, A = some ⟨b, off, none⟩ ∧ lo ≤ b ∧ b < B ∧ ∀ i, i < n →
    (w.cell? ⟨b, off + i * 2, none⟩ = some (.int .i64 (f i).1) ∧ w.cell? ⟨b, off + i * 2 + 1, none⟩ = some (.int .i64 (f i).2)) ∧
    w.frozen? ⟨b, off + i * 2, none⟩ = false ∧ w.frozen? ⟨b, off + i * 2 + 1, none⟩ = false
/-- nothing turns but cells of blocks from lo on, below B -/
structure Only (lo B : Nat) (w w' : World) : Prop where
  os : w'.os = w.os
  tape : w'.tape = w.tape
  output : w'.output = w.output
  size : w'.heap.size = w.heap.size
  block : ∀ k, (k < lo ∨ B ≤ k) → w'.heap[k]? = w.heap[k]?
theorem Only.refl (lo B : Nat) (w : World) : Only lo B w w := ⟨rfl, rfl, rfl, rfl, fun _ _ => rfl⟩
theorem Only.below {lo B : Nat} {w w' : World} (h : Only lo B w w') : Below lo w w' := ⟨h.os, h.tape, h.output, Nat.le_of_eq h.size.symm, fun k hk => h.block k (.inl hk)⟩
theorem Only.set {lo B : Nat} {a w : World} (h : Only lo B a w) {p : Addr} (h1 : lo ≤ p.block) (h2 : p.block < B) (u : Value) : Only lo B a (w.setCell p u) :=
  ⟨h.os, h.tape, h.output, (by simp [World.setCell]; exact h.size), fun k hk => (Below.heap_setCell w p u k (by omega)).trans (h.block k hk)⟩
theorem Only.more {lo B lo' B' : Nat} {w w' : World} (h : Only lo B w w') (h1 : lo' ≤ lo) (h2 : B ≤ B') : Only lo' B' w w' := ⟨h.os, h.tape, h.output, h.size, fun k hk => h.block k (by omega)⟩
theorem rw_block {w w' : World} {lo B : Nat} {A : Option Addr} {n : Nat} {f : Nat → Int × Int} (h : Rw w lo B A n f) (hk : ∀ k, lo ≤ k → k < B → w'.heap[k]? = w.heap[k]?) : Rw w' lo B A n f := by
  intro hn
  obtain ⟨b, off, e, hb1, hb2, hc⟩ := h hn
  have c : ∀ o, w'.cell? ⟨b, o, none⟩ = w.cell? ⟨b, o, none⟩ := fun o => World.cell?_of_block (hk b hb1 hb2)
  have z : ∀ o, w'.frozen? ⟨b, o, none⟩ = w.frozen? ⟨b, o, none⟩ := fun o => World.frozen?_of_block (hk b hb1 hb2)
  exact ⟨b, off, e, hb1, hb2, fun i hi => by rw [c, c, z, z]; exact hc i hi⟩
theorem rw_below {w w' : World} {lo B B' : Nat} {A : Option Addr} {n : Nat} {f : Nat → Int × Int} (h : Rw w lo B A n f) (hb : Below B' w w') (hB : B ≤ B') : Rw w' lo B A n f :=
  rw_block h fun k _ h2 => hb.block k (by omega)
theorem rw_only {w w' : World} {lo B lo' B' : Nat} {A : Option Addr} {n : Nat} {f : Nat → Int × Int} (h : Rw w lo B A n f) (ho : Only lo' B' w w') (hd : B ≤ lo' ∨ B' ≤ lo) : Rw w' lo B A n f :=
  rw_block h fun k h1 h2 => ho.block k (by omega)
theorem rw_more {w : World} {lo B lo' B' : Nat} {A : Option Addr} {n : Nat} {f : Nat → Int × Int} (h : Rw w lo B A n f) (h1 : lo' ≤ lo) (h2 : B ≤ B') : Rw w lo' B' A n f := by
  intro hn
  obtain ⟨b, off, e, hb1, hb2, hc⟩ := h hn
  exact ⟨b, off, e, by omega, by omega, hc⟩
theorem rw_same {w : World} {lo B : Nat} {A : Option Addr} {n : Nat} {f g : Nat → Int × Int} (h : Rw w lo B A n f) (he : ∀ i, i < n → f i = g i) : Rw w lo B A n g := by
  intro hn
  obtain ⟨b, off, e, hb1, hb2, hc⟩ := h hn
  exact ⟨b, off, e, hb1, hb2, fun i hi => by rw [← he i hi]; exact hc i hi⟩
/-- the points of a list, as a row -/
def pt (l : List (Int × Int)) (i : Nat) : Int × Int := (l[i]?).getD (0, 0)
theorem pt_get {l : List (Int × Int)} {i : Nat} (h : i < l.length) : l[i]? = some (pt l i) := by
  unfold pt; rw [List.getElem?_eq_getElem h]; rfl
theorem rw_rd {w : World} {lo B : Nat} {A : Option Addr} {l : List (Int × Int)} (h : Rw w lo B A l.length (pt l)) : Rd w B A l := by
  intro hn
  obtain ⟨b, off, e, hb1, hb2, hc⟩ := h hn
  refine ⟨b, off, e, hb2, fun i p hp => ?_⟩
  have hi := (List.getElem?_eq_some_iff.1 hp).1
  rw [pt_get hi] at hp
  injection hp with hp
  rw [← hp]
  exact (hc i hi).1
theorem rw_of_set {w : World} {g : Nat} {l : List (Int × Int)} (h : Set w g l.length l.length l) : Rw w g (g + 1) (some ⟨g, 0, none⟩) l.length (pt l) := by
  intro _
  refine ⟨g, 0, rfl, Nat.le_refl _, by omega, fun i hi => ?_⟩
  rw [Nat.zero_add]
  exact ⟨h.2.2 i _ hi (pt_get hi), (h.2.1 i hi).2.2⟩
/-- two cells written -/
theorem rw_store {w : World} {lo B b off n k : Nat} {f : Nat → Int × Int} (h : Rw w lo B (some ⟨b, off, none⟩) n f) (hk : k < n) (x y : Int) :
    Rw ((w.setCell ⟨b, off + k * 2, none⟩ (.int .i64 x)).setCell ⟨b, off + k * 2 + 1, none⟩ (.int .i64 y)) lo B (some ⟨b, off, none⟩) n (fun j => if j = k then (x, y) else f j) := by
  intro hn
  obtain ⟨b', off', e, hb1, hb2, hc⟩ := h hn
  injection e with e
  injection e with e1 e2
  subst e1 e2
  have ne : ∀ (W : World) (o o' : Nat) (v : Value), o' ≠ o → (W.setCell ⟨b, o', none⟩ v).cell? ⟨b, o, none⟩ = W.cell? ⟨b, o, none⟩ := fun W o o' v h =>
    World.cell?_setCell_other W _ _ _ (fun e => h (by injection e))
  have sm : ∀ (W : World) (o : Nat) (u v : Value), W.cell? ⟨b, o, none⟩ = some u → (W.setCell ⟨b, o, none⟩ v).cell? ⟨b, o, none⟩ = some v := fun W o u v h => World.cell?_setCell_same W _ _ h
  refine ⟨b, off, rfl, hb1, hb2, fun i hi => ?_⟩
  obtain ⟨⟨c1, c2⟩, z1, z2⟩ := hc i hi
  refine ⟨?_, ?_, ?_⟩
  · by_cases hik : i = k
    · subst hik
      simp only [if_true]
      have c2' : (w.setCell ⟨b, off + i * 2, none⟩ (.int .i64 x)).cell? ⟨b, off + i * 2 + 1, none⟩ = some (.int .i64 (f i).2) := by rw [ne _ _ _ _ (by omega)]; exact c2
      exact ⟨by rw [ne _ _ _ _ (by omega)]; exact sm _ _ _ _ c1, sm _ _ _ _ c2'⟩
    · simp only [hik, if_false]
      rw [ne _ _ _ _ (by omega), ne _ _ _ _ (by omega), ne _ _ _ _ (by omega), ne _ _ _ _ (by omega)]
      exact ⟨c1, c2⟩
  · rw [World.frozen?_setCell, World.frozen?_setCell]; exact z1
  · rw [World.frozen?_setCell, World.frozen?_setCell]; exact z2
end Go.Proofs.Ytieimijkkjhegaa
/- rows of points that a call appends to; the model's list told backwards -/
namespace Go.Proofs.Ytieimijkkjhegaa
open Go.ChangeShapes Go.WideShapes Go.ChangeAt Go.RowKit Go.Joins
set_option linter.unusedVariables false
set_option linter.unusedSimpArgs false
set_option maxRecDepth 4000
/-- points as cells -/
def flat (l : List (Int × Int)) : List Value := l.flatMap fun p => [.int .i64 p.1, .int .i64 p.2]
theorem flat_nil : flat [] = [] := rfl
theorem flat_snoc (l : List (Int × Int)) (p : Int × Int) : flat (l ++ [p]) = flat l ++ [.int .i64 p.1, .int .i64 p.2] := by
  unfold flat; rw [List.flatMap_append]; rfl
theorem flat_get (l : List (Int × Int)) : ∀ i, i < l.length → (flat l)[i * 2]? = some (.int .i64 (pt l i).1) ∧ (flat l)[i * 2 + 1]? = some (.int .i64 (pt l i).2) := by
  induction l with
  | nil => intro i h; simp at h
  | cons p l ih =>
    intro i hi
    have e : flat (p :: l) = [.int .i64 p.1, .int .i64 p.2] ++ flat l := rfl
    rw [e]
    cases i with
    | zero => exact ⟨rfl, rfl⟩
    | succ i =>
      have h := ih i (by simpa using hi)
      have e2 : pt (p :: l) (i + 1) = pt l i := rfl
      rw [e2, show (i + 1) * 2 = 2 + i * 2 by omega, List.getElem?_append_right (by simp), List.getElem?_append_right (by simp; omega)]
      simpa [show 2 + i * 2 - 2 = i * 2 by omega, show 2 + i * 2 + 1 - 2 = i * 2 + 1 by omega] using h
/-- what a row of the call's own reads as -/
theorem rw_of_own {w : World} {base : Nat} {v : Value} {l : List (Int × Int)} (h : w.ownsRow base 42 2 v l.length (flat l)) :
    ∃ A c, v = .slice A l.length c ∧ l.length ≤ c ∧ c ≤ maxLen ∧ Rw w base w.heap.size A l.length (pt l) := by
  have h0 := h
  obtain ⟨h1, h2⟩ := h
  rcases h2 with ⟨hv, hn⟩ | ⟨g, cap, cur, hv, hg, hh, hc, hm, hs, ht⟩
  · exact ⟨none, 0, by rw [hv, hn], by omega, by simp [maxLen], fun hp => absurd hp (by omega)⟩
  · subst hv
    refine ⟨some ⟨g, 0, none⟩, cap, rfl, hc, hm, fun hp => ⟨g, 0, rfl, hg, (h0.lt g rfl).2, fun i hi => ?_⟩⟩
    have hf := flat_get l i hi
    rw [Nat.zero_add]
    exact ⟨⟨(h0.cellAt (i * 2) (by omega)).trans hf.1, (h0.cellAt (i * 2 + 1) (by omega)).trans hf.2⟩, h0.frozenAt _, h0.frozenAt _⟩
/-- the first k of the points f 0, f 1, .. -/
def firsts (f : Nat → Int × Int) (k : Nat) : List (Int × Int) := (List.range k).map f
theorem firsts_len (f : Nat → Int × Int) (k : Nat) : (firsts f k).length = k := by unfold firsts; simp
theorem firsts_succ (f : Nat → Int × Int) (k : Nat) : firsts f (k + 1) = firsts f k ++ [f k] := by unfold firsts; rw [List.range_succ, List.map_append]; rfl
theorem firsts_pt (f : Nat → Int × Int) (k i : Nat) (h : i < k) : pt (firsts f k) i = f i := by
  unfold pt firsts; rw [List.getElem?_map, List.getElem?_range h]; rfl
theorem firsts_get (f : Nat → Int × Int) (k i : Nat) (h : i < k) : (firsts f k)[i]? = some (f i) := by
  unfold firsts; rw [List.getElem?_map, List.getElem?_range h]; rfl
/-- a row that has grown by append: the first k points -/
def Row (w : World) (base : Nat) (v : Value) (f : Nat → Int × Int) (k : Nat) : Prop := w.ownsRow base 42 2 v k (flat (firsts f k))
theorem row_nil (w : World) (base : Nat) (f : Nat → Int × Int) : Row w base (.slice none 0 0) f 0 := World.ownsRow_nil w base _ _
theorem row_step {w : World} {base : Nat} {v : Value} {f : Nat → Int × Int} {k : Nat} (h : w.ownsRow base 42 2 v (k + 1) (flat (firsts f k) ++ [.int .i64 (f k).1, .int .i64 (f k).2])) : Row w base v f (k + 1) := by
  unfold Row; rw [firsts_succ, flat_snoc]; exact h
theorem row_out {w : World} {base : Nat} {v : Value} {f : Nat → Int × Int} {k : Nat} (h : Row w base v f k) :
    ∃ A c, v = .slice A k c ∧ k ≤ c ∧ c ≤ maxLen ∧ Rw w base w.heap.size A k f := by
  have h' : w.ownsRow base 42 2 v (firsts f k).length (flat (firsts f k)) := by rw [firsts_len]; exact h
  obtain ⟨A, c, e, h1, h2, h3⟩ := rw_of_own h'
  rw [firsts_len] at e h1 h3
  exact ⟨A, c, e, h1, h2, rw_same h3 fun i hi => firsts_pt f k i hi⟩
theorem row_alloc {w : World} {base : Nat} {v : Value} {f : Nat → Int × Int} {k : Nat} (h : Row w base v f k) (o : Obj) : Row (w.alloc o) base v f k := World.ownsRow.alloc h o
theorem row_below {w w' : World} {base B : Nat} {v : Value} {f : Nat → Int × Int} {k : Nat} (h : Row w base v f k) (hb : Below B w w') (hB : w.heap.size ≤ B) : Row w' base v f k := by
  obtain ⟨h1, h2⟩ := h
  rcases h2 with h2 | ⟨g, cap, cur, hv, hg, hh, r⟩
  · exact ⟨h1, .inl h2⟩
  · have hl := World.ownsRow.lt (w := w) (base := base) (e := 42) (size := 2) (v := v) (n := k) (xs := flat (firsts f k)) ⟨h1, .inr ⟨g, cap, cur, hv, hg, hh, r⟩⟩ g (by rw [hv]; rfl)
    exact ⟨h1, .inr ⟨g, cap, cur, hv, hg, (hb.block g (by omega)).trans hh, r⟩⟩
/-- behind an append -/
theorem row_push {w W w1 : World} {v v' : Value} {f : Nat → Int × Int} {k : Nat} (hB : Below w.heap.size w W) (hr : Row W w.heap.size v f k)
    (ho : w1.ownsRow w.heap.size 42 2 v' (k + 1) (flat (firsts f k) ++ [.int .i64 (f k).1, .int .i64 (f k).2])) (hg : W.grownBy w1 v.ownBlock) : Row w1 w.heap.size v' f (k + 1) ∧ Below w.heap.size w w1 :=
  ⟨row_step ho, hB.grown hg hB.size fun g hgk => (World.ownsRow.lt hr g hgk).1⟩
theorem two_cells {w : World} {g : Nat} {x y : Value} (h1 : w.cell? ⟨g, 0, none⟩ = some x) (h2 : w.cell? ⟨g, 1, none⟩ = some y) : ∀ j u, [x, y][j]? = some u → w.cell? ((⟨g, 0, none⟩ : Addr).add j) = some u := by
  intro j u hj
  match j, hj with
  | 0, hj => simp at hj; subst hj; exact h1
  | 1, hj => simp at hj; subst hj; exact h2
theorem two_one (x y : Int) : ∀ u ∈ [Value.int .i64 x, Value.int .i64 y], u.oneCell' = true := by
  intro u hu; simp at hu; rcases hu with rfl | rfl <;> rfl
/-- what a call returns that gives a list of points and says whether there is one -/
def RetL (w : World) (m : List (Int × Int)) (b : Bool) (e : Ending) (w' : World) : Prop :=
  ∃ A c, e = .returned (.tuple #[.slice A m.length c, .bool b]) ∧ m.length ≤ c ∧ c ≤ maxLen ∧ Below w.heap.size w w' ∧ Rw w' w.heap.size w'.heap.size A m.length (pt m)
/-- what a call returns that gives a list of points -/
def RetP (w : World) (m : List (Int × Int)) (e : Ending) (w' : World) : Prop :=
  ∃ A c, e = .returned (.slice A m.length c) ∧ m.length ≤ c ∧ c ≤ maxLen ∧ Below w.heap.size w w' ∧ Rw w' w.heap.size w'.heap.size A m.length (pt m)
theorem retP_row {w w' : World} {v : Value} {f : Nat → Int × Int} {k : Nat} (h : Row w' w.heap.size v f k) (hb : Below w.heap.size w w') : RetP w (firsts f k) (.returned v) w' := by
  obtain ⟨A, c, rfl, h1, h2, h3⟩ := row_out h
  refine ⟨A, c, by rw [firsts_len], by rw [firsts_len]; exact h1, h2, hb, ?_⟩
  rw [firsts_len]
  exact rw_same h3 fun i hi => (firsts_pt f k i hi).symm
theorem retL_nil {w w' : World} (hb : Below w.heap.size w w') : RetL w [] false (.returned (.tuple #[.slice none 0 0, .bool false])) w' :=
  ⟨none, 0, rfl, by simp, by simp [maxLen], hb, fun h => absurd h (by simp)⟩
theorem retL_of_P {w w1 w2 : World} {m : List (Int × Int)} {A : Option Addr} {c : Nat} (hb1 : Below w.heap.size w w1) (h1 : m.length ≤ c) (h2 : c ≤ maxLen) (hb2 : Below w1.heap.size w1 w2) (h : Rw w2 w1.heap.size w2.heap.size A m.length (pt m)) :
    RetL w m true (.returned (.tuple #[.slice A m.length c, .bool true])) w2 :=
  ⟨A, c, rfl, h1, h2, hb1.trans (hb2.mono hb1.size), rw_more h hb1.size (Nat.le_refl _)⟩
theorem retL_up {w w1 w2 : World} {m : List (Int × Int)} {b : Bool} {e : Ending} (hb1 : Below w.heap.size w w1) (h : RetL w1 m b e w2) : RetL w m b e w2 := by
  obtain ⟨A, c, e, h1, h2, h3, h4⟩ := h
  exact ⟨A, c, e, h1, h2, hb1.trans (h3.mono hb1.size), rw_more h4 hb1.size (Nat.le_refl _)⟩
end Go.Proofs.Ytieimijkkjhegaa
/- a list or none -/
namespace Go.Proofs.Ytieimijkkjhegaa
open Go.ChangeShapes Go.WideShapes Go.ChangeAt Go.RowKit Go.Joins
set_option linter.unusedVariables false
set_option linter.unusedSimpArgs false
set_option maxRecDepth 4000
def sel (b : Bool) (m : List (Int × Int)) : List (Int × Int) := if b = true then m else []
end Go.Proofs.Ytieimijkkjhegaa
/- the least and the greatest numbers of corners -/
namespace Go.Proofs.Ytieimijkkjhegaa
open Go.ChangeShapes Go.WideShapes Go.ChangeAt Go.RowKit Go.Joins
set_option linter.unusedVariables false
set_option linter.unusedSimpArgs false
set_option maxRecDepth 4000
/-- the least and the greatest numbers of corner 0 and of the first k corners -/
def loN (l : List (Int × Int)) : Nat → Int × Int
  | 0 => vx l 0
  | k + 1 => (min (loN l k).1 (vx l k).1, min (loN l k).2 (vx l k).2)
def hiN (l : List (Int × Int)) : Nat → Int × Int
  | 0 => vx l 0
  | k + 1 => (max (hiN l k).1 (vx l k).1, max (hiN l k).2 (vx l k).2)
end Go.Proofs.Ytieimijkkjhegaa
/- plain: the points inside a polygon, column by column; rows that have grown to a list -/
namespace Go.Proofs.Ytieimijkkjhegaa
open Go.ChangeShapes Go.WideShapes Go.ChangeAt Go.RowKit Go.Joins
set_option linter.unusedVariables false
set_option linter.unusedSimpArgs false
set_option maxRecDepth 4000
/-- the points inside among m of a column, from y0 on -/
noncomputable def colR (l : List (Int × Int)) (x y0 : Int) : Nat → List (Int × Int)
  | 0 => []
  | m + 1 => colR l x y0 m ++ (if whN l (x, y0 + m) = 1 then [(x, y0 + m)] else [])
/-- the points inside in i columns -/
noncomputable def gridR (l : List (Int × Int)) (x0 y0 : Int) (rows : Nat) : Nat → List (Int × Int)
  | 0 => []
  | i + 1 => gridR l x0 y0 rows i ++ colR l (x0 + i) y0 rows
theorem colR_app (l : List (Int × Int)) (x y0 : Int) (a b : Nat) : colR l x y0 (a + b) = colR l x y0 a ++ colR l x (y0 + a) b := by
  induction b with
  | zero => simp [colR]
  | succ b ih =>
    have e : colR l x y0 (a + (b + 1)) = colR l x y0 (a + b) ++ (if whN l (x, y0 + ((a + b : Nat) : Int)) = 1 then [(x, y0 + ((a + b : Nat) : Int))] else []) := rfl
    have e2 : colR l x (y0 + a) (b + 1) = colR l x (y0 + a) b ++ (if whN l (x, y0 + a + b) = 1 then [(x, y0 + a + b)] else []) := rfl
    rw [e, e2, ih, List.append_assoc, show y0 + ((a + b : Nat) : Int) = y0 + a + b by omega]
theorem colR_nil {l : List (Int × Int)} {x y0 : Int} {m : Nat} (h : ∀ j : Nat, j < m → whN l (x, y0 + j) ≠ 1) : colR l x y0 m = [] := by
  induction m with
  | zero => rfl
  | succ m ih =>
    show colR l x y0 m ++ _ = _
    rw [ih (fun j hj => h j (by omega)), if_neg (h m (by omega))]; rfl
theorem gridR_app (l : List (Int × Int)) (x0 y0 : Int) (r a b : Nat) : gridR l x0 y0 r (a + b) = gridR l x0 y0 r a ++ gridR l (x0 + a) y0 r b := by
  induction b with
  | zero => simp [gridR]
  | succ b ih =>
    have e : gridR l x0 y0 r (a + (b + 1)) = gridR l x0 y0 r (a + b) ++ colR l (x0 + ((a + b : Nat) : Int)) y0 r := rfl
    have e2 : gridR l (x0 + a) y0 r (b + 1) = gridR l (x0 + a) y0 r b ++ colR l (x0 + a + b) y0 r := rfl
    rw [e, e2, ih, List.append_assoc, show x0 + ((a + b : Nat) : Int) = x0 + a + b by omega]
theorem gridR_nil {l : List (Int × Int)} {x0 y0 : Int} {r m : Nat} (h : ∀ i : Nat, i < m → colR l (x0 + i) y0 r = []) : gridR l x0 y0 r m = [] := by
  induction m with
  | zero => rfl
  | succ m ih =>
    show gridR l x0 y0 r m ++ _ = _
    rw [ih (fun i hi => h i (by omega)), h m (by omega)]; rfl
theorem colR_len (l : List (Int × Int)) (x y0 : Int) (m : Nat) : (colR l x y0 m).length ≤ m := by
  induction m with
  | zero => simp [colR]
  | succ m ih =>
    show (colR l x y0 m ++ _).length ≤ _
    rw [List.length_append]
    split <;> simp <;> omega
theorem gridR_len (l : List (Int × Int)) (x0 y0 : Int) (r m : Nat) : (gridR l x0 y0 r m).length ≤ m * r := by
  induction m with
  | zero => simp [gridR]
  | succ m ih =>
    show (gridR l x0 y0 r m ++ _).length ≤ _
    rw [List.length_append, Nat.add_mul]
    have := colR_len l (x0 + m) y0 r
    omega
/-- the points inside, in order -/
noncomputable def insL (l : List (Int × Int)) : List (Int × Int) := gridR l (-40) (-40) 81 81
theorem insL_len (l : List (Int × Int)) : (insL l).length ≤ 6561 := gridR_len l (-40) (-40) 81 81
theorem box_lo (l : List (Int × Int)) : ∀ k i, i < k → (loN l k).1 ≤ (vx l i).1 ∧ (loN l k).2 ≤ (vx l i).2
  | 0, i, h => by omega
  | k + 1, i, h => by
    show min (loN l k).1 (vx l k).1 ≤ _ ∧ min (loN l k).2 (vx l k).2 ≤ _
    by_cases e : i = k
    · subst e; omega
    · have := box_lo l k i (by omega); omega
theorem box_hi (l : List (Int × Int)) : ∀ k i, i < k → (vx l i).1 ≤ (hiN l k).1 ∧ (vx l i).2 ≤ (hiN l k).2
  | 0, i, h => by omega
  | k + 1, i, h => by
    show _ ≤ max (hiN l k).1 (vx l k).1 ∧ _ ≤ max (hiN l k).2 (vx l k).2
    by_cases e : i = k
    · subst e; omega
    · have := box_hi l k i (by omega); omega
theorem box_in {l : List (Int × Int)} (hp : ∀ i, -40 ≤ (vx l i).1 ∧ (vx l i).1 ≤ 40 ∧ -40 ≤ (vx l i).2 ∧ (vx l i).2 ≤ 40) : ∀ k, (-40 ≤ (loN l k).1 ∧ (loN l k).1 ≤ 40 ∧ -40 ≤ (loN l k).2 ∧ (loN l k).2 ≤ 40) ∧ (-40 ≤ (hiN l k).1 ∧ (hiN l k).1 ≤ 40 ∧ -40 ≤ (hiN l k).2 ∧ (hiN l k).2 ≤ 40)
  | 0 => ⟨hp 0, hp 0⟩
  | k + 1 => by
    have ih := box_in hp k
    have h := hp k
    refine ⟨⟨?_, ?_, ?_, ?_⟩, ?_, ?_, ?_, ?_⟩ <;> simp only [loN, hiN] <;> omega
/-- what is inside lies in the corners' box -/
theorem in_box {l : List (Int × Int)} (hg : Good l) {p : Int × Int} (h : whN l p = 1) : (loN l l.length).1 ≤ p.1 ∧ p.1 ≤ (hiN l l.length).1 ∧ (loN l l.length).2 ≤ p.2 ∧ p.2 ≤ (hiN l l.length).2 := by
  have h0 := good_pos hg
  have hb : ¬ MJ.Bd (vx l) p := fun hb => by rw [whN_on hb] at h; omega
  rw [whN_off hb] at h
  have hw : MJ.WN (vx l) l.length p ≠ 0 := by intro e; rw [if_pos e] at h; omega
  have lo : ∀ i, (loN l l.length).1 ≤ (vx l i).1 ∧ (loN l l.length).2 ≤ (vx l i).2 := fun i => by rw [← vx_per]; exact box_lo l _ _ (Nat.mod_lt _ h0)
  have hi : ∀ i, (vx l i).1 ≤ (hiN l l.length).1 ∧ (vx l i).2 ≤ (hiN l l.length).2 := fun i => by rw [← vx_per]; exact box_hi l _ _ (Nat.mod_lt _ h0)
  have z : (∀ j, MJ.cr (vx l j) (vx l (j + 1)) p = 0) → False := fun hz => hw (MJ.sm_zero fun j _ => hz j)
  refine ⟨?_, ?_, ?_, ?_⟩
  · refine Classical.byContradiction fun hn => hw ?_
    rw [← MJ.both_off (good_poly hg) hb]
    refine MJ.sm_zero fun j _ => MJ.cr_west ?_ ?_
    · have := lo j; simp only [MJ.ng]; omega
    · have := lo (j + 1); simp only [MJ.ng]; omega
  · refine Classical.byContradiction fun hn => z fun j => MJ.cr_west ?_ ?_
    · have := hi j; omega
    · have := hi (j + 1); omega
  · refine Classical.byContradiction fun hn => z fun j => ?_
    have h1 := lo j
    have h2 := lo (j + 1)
    unfold MJ.cr
    rw [if_neg (by omega), if_neg (by omega)]
  · refine Classical.byContradiction fun hn => z fun j => ?_
    have h1 := hi j
    have h2 := hi (j + 1)
    unfold MJ.cr
    rw [if_neg (by omega), if_neg (by omega)]
theorem good_40 {l : List (Int × Int)} (hg : Good l) (i : Nat) : -40 ≤ (vx l i).1 ∧ (vx l i).1 ≤ 40 ∧ -40 ≤ (vx l i).2 ∧ (vx l i).2 ≤ 40 := by
  obtain ⟨a, b, c, d⟩ := good_box hg i
  exact ⟨a, b, c, d⟩
/-- columns and rows outside of the box may be left out -/
theorem insL_box {l : List (Int × Int)} (hg : Good l) : insL l = gridR l (loN l l.length).1 (loN l l.length).2 ((hiN l l.length).2 - (loN l l.length).2 + 1).toNat ((hiN l l.length).1 - (loN l l.length).1 + 1).toNat := by
  have hb := box_in (good_40 hg) l.length
  have hbx := fun p (h : whN l p = 1) => in_box hg h
  have hle : (loN l l.length).1 ≤ (hiN l l.length).1 ∧ (loN l l.length).2 ≤ (hiN l l.length).2 := by
    have a := box_lo l l.length 0 (good_pos hg)
    have b := box_hi l l.length 0 (good_pos hg)
    omega
  generalize loN l l.length = lo at *
  generalize hiN l l.length = hi at *
  have col : ∀ x, colR l x (-40) 81 = colR l x lo.2 (hi.2 - lo.2 + 1).toNat := by
    intro x
    have e : 81 = (lo.2 + 40).toNat + ((hi.2 - lo.2 + 1).toNat + (40 - hi.2).toNat) := by omega
    rw [e, colR_app, colR_app]
    rw [colR_nil (m := (lo.2 + 40).toNat) (fun j hj h => by have := hbx _ h; simp only [] at this; omega)]
    rw [colR_nil (m := (40 - hi.2).toNat) (fun j hj h => by have := hbx _ h; simp only [] at this; omega)]
    rw [List.nil_append, List.append_nil, show -40 + (((lo.2 + 40).toNat : Nat) : Int) = lo.2 by omega]
  have grid : ∀ (x0 : Int) (m : Nat), gridR l x0 (-40) 81 m = gridR l x0 lo.2 (hi.2 - lo.2 + 1).toNat m := by
    intro x0 m
    induction m with
    | zero => rfl
    | succ m ih =>
      show gridR l x0 (-40) 81 m ++ _ = gridR l x0 lo.2 _ m ++ _
      rw [ih, col]
  unfold insL
  have e : 81 = (lo.1 + 40).toNat + ((hi.1 - lo.1 + 1).toNat + (40 - hi.1).toNat) := by omega
  have ne : ∀ (x : Int), (x < lo.1 ∨ hi.1 < x) → colR l x lo.2 (hi.2 - lo.2 + 1).toNat = [] := fun x hx => colR_nil fun j hj h => by have := hbx _ h; simp only [] at this; omega
  rw [grid]
  have : gridR l (-40) lo.2 (hi.2 - lo.2 + 1).toNat 81 = gridR l (-40) lo.2 (hi.2 - lo.2 + 1).toNat ((lo.1 + 40).toNat + ((hi.1 - lo.1 + 1).toNat + (40 - hi.1).toNat)) := by rw [← e]
  rw [this, gridR_app, gridR_app]
  rw [gridR_nil (m := (lo.1 + 40).toNat) (fun i hi' => ne _ (by omega))]
  rw [gridR_nil (m := (40 - hi.1).toNat) (fun i hi' => ne _ (by omega))]
  rw [List.nil_append, List.append_nil, show -40 + (((lo.1 + 40).toNat : Nat) : Int) = lo.1 by omega]
/-- PICK: the told number is none less than 0 -/
theorem st_is (a b : Int × Int) : (MJ.St a b : Int) = stepN a.1 a.2 b.1 b.2 := by
  unfold MJ.St stepN Int.gcd
  rw [show (b.1 - a.1).natAbs = (a.1 - b.1).natAbs by omega, show (b.2 - a.2).natAbs = (a.2 - b.2).natAbs by omega]
theorem on_sum (l : List (Int × Int)) : onN l = MJ.sm (fun k => (MJ.St (vx l k) (vx l (k + 1)) : Int)) l.length := by
  unfold onN Rn
  rw [sumTo_is]
  exact MJ.sm_congr fun k _ => (st_is _ _).symm
theorem ins_pos {l : List (Int × Int)} (hg : Good l) : 0 ≤ insN l ∧ insN l ≤ 100000 := by
  have p := MJ.pick_le (good_poly hg) (good_box hg)
  rw [← area_is, ← on_sum] at p
  have r := rn_bd hg.pegs (good_pos hg) l.length
  have a := sh_bd hg.pegs (good_pos hg) l.length
  have h10 := hg.few.2
  change -(160 * (l.length : Int)) ≤ onN l ∧ onN l ≤ _ at r
  change -(3200 * (l.length : Int)) ≤ areaN l ∧ areaN l ≤ _ at a
  unfold insN
  have e : ∀ x : Int, 0 ≤ x → x.tdiv 2 = x / 2 := fun x hx => Int.tdiv_eq_ediv_of_nonneg hx
  have hn : 0 ≤ ((areaN l).natAbs : Int) + 2 - onN l := by omega
  rw [e _ hn]
  omega
/-- a row of the call's own that has grown to a list -/
def RowL (w : World) (base : Nat) (v : Value) (m : List (Int × Int)) : Prop := w.ownsRow base 42 2 v m.length (flat m)
theorem rowL_nil (w : World) (base : Nat) : RowL w base (.slice none 0 0) [] := World.ownsRow_nil w base _ _
theorem rowL_alloc {w : World} {base : Nat} {v : Value} {m : List (Int × Int)} (h : RowL w base v m) (o : Obj) : RowL (w.alloc o) base v m := World.ownsRow.alloc h o
theorem rowL_below {w w' : World} {base B : Nat} {v : Value} {m : List (Int × Int)} (h : RowL w base v m) (hb : Below B w w') (hB : w.heap.size ≤ B) : RowL w' base v m := by
  obtain ⟨h1, h2⟩ := h
  rcases h2 with h2 | ⟨g, cap, cur, hv, hg, hh, r⟩
  · exact ⟨h1, .inl h2⟩
  · have hl := World.ownsRow.lt (w := w) (base := base) (e := 42) (size := 2) (v := v) (n := m.length) (xs := flat m) ⟨h1, .inr ⟨g, cap, cur, hv, hg, hh, r⟩⟩ g (by rw [hv]; rfl)
    exact ⟨h1, .inr ⟨g, cap, cur, hv, hg, (hb.block g (by omega)).trans hh, r⟩⟩
theorem rowL_push {w W w1 : World} {v v' : Value} {m : List (Int × Int)} {x y : Int} (hB : Below w.heap.size w W) (hr : RowL W w.heap.size v m)
    (ho : w1.ownsRow w.heap.size 42 2 v' (m.length + 1) (flat m ++ [.int .i64 x, .int .i64 y])) (hg : W.grownBy w1 v.ownBlock) : RowL w1 w.heap.size v' (m ++ [(x, y)]) ∧ Below w.heap.size w w1 :=
  ⟨by unfold RowL; rw [flat_snoc, List.length_append]; exact ho, hB.grown hg hB.size fun g hgk => (World.ownsRow.lt hr g hgk).1⟩
theorem retP_rowL {w w' : World} {v : Value} {m : List (Int × Int)} (h : RowL w' w.heap.size v m) (hb : Below w.heap.size w w') : RetP w m (.returned v) w' := by
  obtain ⟨A, c, rfl, h1, h2, h3⟩ := rw_of_own h
  exact ⟨A, c, rfl, h1, h2, hb, h3⟩
theorem colR_no {l : List (Int × Int)} {x y0 : Int} {m : Nat} (h : whN l (x, y0 + m) ≠ 1) : colR l x y0 (m + 1) = colR l x y0 m := by
  show colR l x y0 m ++ _ = _
  rw [if_neg h, List.append_nil]
theorem colR_yes {l : List (Int × Int)} {x y0 : Int} {m : Nat} (h : whN l (x, y0 + m) = 1) : colR l x y0 (m + 1) = colR l x y0 m ++ [(x, y0 + m)] := by
  show colR l x y0 m ++ _ = _
  rw [if_pos h]
theorem whN_3 (l : List (Int × Int)) (p : Int × Int) : whN l p = 0 ∨ whN l p = 1 ∨ whN l p = -1 := by
  by_cases h : MJ.Bd (vx l) p
  · exact .inl (whN_on h)
  · rw [whN_off h]; split <;> simp
end Go.Proofs.Ytieimijkkjhegaa
/- A statement that leaves the order of its first operations open, all of which come to one value in every world that meets S and lead to such a world again; the last ones stand in one order: one walk, in the order of the text. -/
namespace Go.Proofs.Ytieimijkkjhegaa
open Go.ChangeShapes Go.WideShapes Go.ChangeAt Go.RowKit Go.Joins
set_option linter.unusedVariables false
set_option linter.unusedSimpArgs false
set_option maxRecDepth 4000
section
variable {P : Program} {ops : Array Oper} {md : Region.Mode} {S : World → Prop}
def wpAnyS (P : Program) (md : Region.Mode) (ops : Array Oper) (S : World → Prop) (n : Nat) (L : Array Bool → Act → Prop) : Nat → Array Bool → Act → Prop
  | 0, listed, a => L listed a
  | f + 1, listed, a => Region.ready md ops listed ≠ [] ∧ ∀ i ∈ Region.ready md ops listed, i < n ∧ ∃ oi v, ops[i]? = some oi ∧ Steady P ops S oi v a ∧ wpAnyS P md ops S n L f (listed.setIfInBounds i true) (a.put oi.dst v)
theorem wpAny_of_S {n g : Nat} {L : Array Bool → Act → Prop} {Q : Exit → Act → World → Prop} (hL : ∀ listed a, L listed a → ∀ w, S w → wpAny P md ops Q g listed a w) :
    ∀ (f : Nat) (listed : Array Bool) (a : Act), wpAnyS P md ops S n L f listed a → ∀ w, S w → wpAny P md ops Q (f + g) listed a w
  | 0, listed, a, h, w, hS => by rw [Nat.zero_add]; exact hL _ _ h w hS
  | f + 1, listed, a, h, w, hS => by
    rw [show f + 1 + g = (f + g) + 1 by omega]
    exact ⟨fun h0 => absurd h0 h.1, fun i hi => by
      obtain ⟨_, oi, v, ho, hy, hn⟩ := h.2 i hi
      exact steady_op ho hy hS fun w' hS' => wpAny_of_S hL f _ _ hn w' hS'⟩
theorem wpAnyS_first {n i : Nat} {oi : Oper} {v : Value} {L : Array Bool → Act → Prop} (hi : ops[i]? = some oi) (hsel : ∀ (j : Nat) (o : Oper) cs b, ops[j]? = some o → o.op ≠ .select cs b)
    (hs : Region.sinkB md ops n = true) (hc : Region.chainB md ops n = true) (hn : n < ops.size) (hin : i < n)
    (hdone : ∀ listed a, L listed a → ∀ j ∈ Region.ready md ops listed, n ≤ j) :
    ∀ (f : Nat) (listed : Array Bool) (a : Act), HeadInv md ops n listed →
      (∀ j oj, ops[j]? = some oj → j ≠ i → listed.getD j true = false → (∀ e ∈ oj.after, Region.binds md e = true → e.on ≠ i) → oi.apart ops oj = true) →
      i ∈ Region.ready md ops listed → Steady P ops S oi v a →
      wpAnyS P md ops S n L f (listed.setIfInBounds i true) (a.put oi.dst v) → wpAnyS P md ops S n L (f + 1) listed a := by
  intro f
  induction f with
  | zero =>
    intro listed a inv _ hr hy H
    have hun := (mem_ready.1 hr).1
    refine ⟨fun h => (by rw [h] at hr; cases hr), fun j hj => ?_⟩
    have hjn : j < n := by
      rcases Nat.lt_or_ge j n with h | h
      · exact h
      · exact absurd hj (tail_waits hs hc hn inv _ i rfl hin hun j h)
    refine ⟨hjn, ?_⟩
    by_cases hji : j = i
    · subst hji; exact ⟨oi, v, hi, hy, H⟩
    · have := hdone _ _ H j (ready_mono hj hji)
      omega
  | succ f ih =>
    intro listed a inv hfree hr hy H
    have hun := (mem_ready.1 hr).1
    refine ⟨fun h => (by rw [h] at hr; cases hr), fun j hj => ?_⟩
    have hjn : j < n := by
      rcases Nat.lt_or_ge j n with h | h
      · exact h
      · exact absurd hj (tail_waits hs hc hn inv _ i rfl hin hun j h)
    refine ⟨hjn, ?_⟩
    by_cases hji : j = i
    · subst hji; exact ⟨oi, v, hi, hy, H⟩
    · obtain ⟨_, oj, u, hoj, hsj, Hj⟩ := H.2 j (ready_mono hj hji)
      obtain ⟨hjun, oj', hoj', hall⟩ := mem_ready.1 hj
      obtain rfl : oj' = oj := Option.some.inj (hoj'.symm.trans hoj)
      have hnot : ∀ e ∈ oj'.after, Region.binds md e = true → e.on ≠ i := fun e he hb heq => by
        have h1 := hall e he hb
        rw [heq, getD_both hun] at h1
        cases h1
      obtain ⟨h1, h2, h3⟩ := Oper.apart_spec (hfree j oj' hoj hji hjun hnot)
      have k1 : Steady P ops S oj' u a := steady_same hsj (execOp_put oj' (fun cs b => hsel j oj' cs b hoj) a oi.dst v h1).symm (wanted_put oj' a oi.dst v h1).symm
      have k2 : Steady P ops S oi v (a.put oj'.dst u) := steady_same hy (execOp_put oi (fun cs b => hsel i oi cs b hi) a oj'.dst u h3) (wanted_put oi a oj'.dst u h3)
      refine ⟨oj', u, hoj, k1, ih _ _ (inv.set hj hjn) (fun k ok hk hki hun hno => ?_) (ready_mono hr (Ne.symm hji)) k2 ?_⟩
      · refine hfree k ok hk hki ?_ hno
        by_cases hjk : j = k
        · subst hjk; exact hjun
        · rw [getD_set_ne true hjk] at hun; exact hun
      · rw [Array.setIfInBounds_comm _ _ hji, ← Act.put_comm a v u h2]
        exact Hj
/-- the head, in the text's order -/
def wpH (P : Program) (ops : Array Oper) (S : World → Prop) (T : Act → Prop) : List Oper → Act → Prop
  | [], a => T a
  | o :: rest, a => ∃ v, Steady P ops S o v a ∧ wpH P ops S T rest (a.put o.dst v)
theorem wpAnyS_lex {n g : Nat} {T : Act → Prop} (hsel : Region.noSelect ops = true) (hs : Region.sinkB md ops n = true) (hc : Region.chainB md ops n = true) (hn : n < ops.size) :
    ∀ (l : List Oper) (k : Nat) (listed : Array Bool) (a : Act), (∀ j, j < l.length → l[j]? = ops[k + j]?) → k + l.length = n → HeadInv md ops n listed →
    Region.lexHead md ops g l.length k listed = true → wpH P ops S T l a →
    wpAnyS P md ops S n (fun listed' a' => Region.seqB md ops g n listed' = true ∧ T a') l.length listed a
  | [], k, listed, a, _, hk, _, hB, h => by
    have : k = n := by simpa using hk
    subst this
    exact ⟨by simpa [Region.lexHead] using hB, h⟩
  | o :: l, k, listed, a, hl, hk, inv, hB, h => by
    have h0 : ops[k]? = some o := by simpa using (hl 0 (by simp)).symm
    simp only [List.length_cons, Region.lexHead, Bool.and_eq_true] at hB
    obtain ⟨⟨hr, hf⟩, hB'⟩ := hB
    have hkn : k < n := by simp only [List.length_cons] at hk; omega
    have hr' : k ∈ Region.ready md ops listed := by simpa using hr
    obtain ⟨v, hy, hK⟩ := h
    exact wpAnyS_first h0 (Region.noSelect_spec hsel) hs hc hn hkn (fun listed' a' hL => seqB_ready hL.1) l.length listed a inv (Region.free_spec h0 hf) hr' hy
      (wpAnyS_lex hsel hs hc hn l (k + 1) _ _ (fun j hj => by have := hl (j + 1) (by simp; omega); simpa [Nat.add_assoc, Nat.add_comm 1 j] using this) (by simp only [List.length_cons] at hk; omega) (inv.set hr' hkn) hB' hK)
theorem wp_region_BT {id : Nat} {Q : Exit → Act → World → Prop} {a : Act} {w : World} {l : List Oper} (n : Nat) (S : World → Prop) (hm : P.follows .mixedOrders = true) (hB : Region.lexTailB .any l.toArray n = true) (hS : S w.drew)
    (h : wpH P l.toArray S (fun a' => ∀ W, S W → wpList P l.toArray Q (l.drop n) a' W) (l.take n) a) : (Code.region id l.toArray true).wp P Q a w := by
  simp only [Region.lexTailB, Bool.and_eq_true, decide_eq_true_eq] at hB
  obtain ⟨⟨⟨⟨hsel, hn⟩, hs⟩, hc⟩, hlex⟩ := hB
  have hn' : n < l.length := by simpa using hn
  have htl : (l.take n).length = n := by simp; omega
  have hdl : (l.drop n).length = l.toArray.size - n := by simp
  have inv0 : HeadInv .any l.toArray n (Array.replicate l.toArray.size false) :=
    ⟨by simp, fun j oj _ hl => (by rw [getD_replicate_false] at hl; cases hl), fun t _ ht => getD_in (by simpa using ht) (getD_replicate_false _ _)⟩
  have H := wpAnyS_lex (md := .any) (g := l.toArray.size - n) hsel hs hc hn (l.take n) 0 _ a (fun j hj => by
    have hj' : j < n := by rw [htl] at hj; exact hj
    simp [hj']) (by simpa using htl) inv0 (by rw [htl]; exact hlex) h
  refine wp_region_any hm ?_
  have := wpAny_of_S (Q := Q) (g := l.toArray.size - n) (fun listed a' hL W hW => by
    have := wpAny_of_seq (md := .any) (Q' := Q) (l.drop n) n listed a' W (fun j => by simp [List.getElem?_drop]) (by rw [hdl]; exact hL.1) (hL.2 W hW)
    rwa [hdl] at this) _ _ _ H w.drew hS
  rw [htl, show n + (l.toArray.size - n) = l.toArray.size by omega] at this
  exact this
theorem wpH_text {T : Act → Prop} {o : Oper} {rest : List Oper} {a : Act} {v : Value} (hw : Region.wanted o (yielded ops a.tmps) = true) (hy : ∀ w, S w → Comes P S v ((execOp a.eval o).run P w))
    (h : wpH P ops S T rest (a.put o.dst v)) : wpH P ops S T (o :: rest) a := ⟨v, Or.inl ⟨hw, hy⟩, h⟩
theorem wpH_skip {T : Act → Prop} {o : Oper} {rest : List Oper} {a : Act} (hw : Region.wanted o (yielded ops a.tmps) = false)
    (h : wpH P ops S T rest (a.put o.dst undef)) : wpH P ops S T (o :: rest) a := ⟨undef, Or.inr ⟨hw, rfl⟩, h⟩
theorem wpH_nil {T : Act → Prop} {a : Act} (h : T a) : wpH P ops S T [] a := h
end
end Go.Proofs.Ytieimijkkjhegaa
/- two boxes of points, each in a block of its own, that are written -/
namespace Go.Proofs.Ytieimijkkjhegaa
open Go.ChangeShapes Go.WideShapes Go.ChangeAt Go.RowKit Go.Joins
set_option linter.unusedVariables false
set_option linter.unusedSimpArgs false
set_option maxRecDepth 4000
/-- two boxes of points, each in a block of its own, and one that is looked at; the other old blocks are as in w -/
structure Two (w wr : World) (g h : Nat) (p q : Int × Int) : Prop where
  below : Below w.heap.size w wr
  g0 : wr.cell? ⟨g, 0, none⟩ = some (.int .i64 p.1)
  g1 : wr.cell? ⟨g, 1, none⟩ = some (.int .i64 p.2)
  h0 : wr.cell? ⟨h, 0, none⟩ = some (.int .i64 q.1)
  h1 : wr.cell? ⟨h, 1, none⟩ = some (.int .i64 q.2)
  gf : ∀ o, wr.frozen? ⟨g, o, none⟩ = false
  hf : ∀ o, wr.frozen? ⟨h, o, none⟩ = false
  lo1 : w.heap.size ≤ g
  lo2 : w.heap.size ≤ h
  up1 : g < wr.heap.size
  up2 : h < wr.heap.size
  ne : g ≠ h
theorem two_below {w wr W : World} {g h : Nat} {p q : Int × Int} (t : Two w wr g h p q) (hb : Below wr.heap.size wr W) : Two w W g h p q := by
  obtain ⟨t1, t2, t3, t4, t5, t6, t7, t8, t9, t10, t11, t12⟩ := t
  have hc := (bcell hb).1
  have hf := (bcell hb).2
  have hz := hb.size
  exact ⟨t1.trans (hb.mono t1.size), by rw [hc _ _ t10]; exact t2, by rw [hc _ _ t10]; exact t3, by rw [hc _ _ t11]; exact t4, by rw [hc _ _ t11]; exact t5, fun o => by rw [hf _ _ t10]; exact t6 o, fun o => by rw [hf _ _ t11]; exact t7 o, t8, t9, by omega, by omega, t12⟩
theorem two_low {w wr : World} {g h : Nat} {p q : Int × Int} (t : Two w wr g h p q) (x y : Int) : Two w ((wr.setCell ⟨g, 0, none⟩ (.int .i64 x)).setCell ⟨g, 1, none⟩ (.int .i64 y)) g h (x, y) q := by
  obtain ⟨t1, t2, t3, t4, t5, t6, t7, t8, t9, t10, t11, t12⟩ := t
  have o : ∀ oo, ((wr.setCell ⟨g, 0, none⟩ (.int .i64 x)).setCell ⟨g, 1, none⟩ (.int .i64 y)).cell? ⟨h, oo, none⟩ = wr.cell? ⟨h, oo, none⟩ := fun oo => by
    rw [World.cell?_setCell_other _ _ _ _ (fun e => t12 (by injection e)), World.cell?_setCell_other _ _ _ _ (fun e => t12 (by injection e))]
  refine ⟨(t1.setCell t8 _).setCell t8 _, ?_, ?_, by rw [o]; exact t4, by rw [o]; exact t5, fun oo => by rw [World.frozen?_setCell, World.frozen?_setCell]; exact t6 oo, fun oo => by rw [World.frozen?_setCell, World.frozen?_setCell]; exact t7 oo, t8, t9, by simpa [World.setCell] using t10, by simpa [World.setCell] using t11, t12⟩
  · rw [World.cell?_setCell_other _ _ _ _ (fun e => by injection e with e1 e2; cases e2), World.cell?_setCell_same _ _ _ t2]
  · refine World.cell?_setCell_same (wr.setCell ⟨g, 0, none⟩ (.int .i64 x)) ⟨g, 1, none⟩ (.int .i64 y) (show (wr.setCell ⟨g, 0, none⟩ (.int .i64 x)).cell? ⟨g, 1, none⟩ = some (.int .i64 p.2) from ?_)
    rw [World.cell?_setCell_other _ _ _ _ (fun e => by injection e with e1 e2; cases e2)]
    exact t3
theorem two_swap {w wr : World} {g h : Nat} {p q : Int × Int} (t : Two w wr g h p q) : Two w wr h g q p := by
  obtain ⟨t1, t2, t3, t4, t5, t6, t7, t8, t9, t10, t11, t12⟩ := t
  exact ⟨t1, t4, t5, t2, t3, t7, t6, t9, t8, t11, t10, fun e => t12 e.symm⟩
theorem two_high {w wr : World} {g h : Nat} {p q : Int × Int} (t : Two w wr g h p q) (x y : Int) : Two w ((wr.setCell ⟨h, 0, none⟩ (.int .i64 x)).setCell ⟨h, 1, none⟩ (.int .i64 y)) g h p (x, y) :=
  two_swap (two_low (two_swap t) x y)
theorem two_new {w w1 : World} {p : Int × Int} {t : TypeId} (hb : Below w.heap.size w w1) : Two w ((w1.alloc (.cells #[.int .i64 p.1, .int .i64 p.2] t)).alloc (.cells #[.int .i64 p.1, .int .i64 p.2] t)) w1.heap.size (w1.heap.size + 1) p p := by
  have hz := hb.size
  refine ⟨Below.alloc (Below.alloc hb hz _) (by simp; omega) _, by go_simp, by go_simp, by go_simp, by go_simp, fun o => ?_, fun o => ?_, hz, by omega, by simp; omega, by simp, by omega⟩
  · rw [frozen?_alloc_cells, frozen?_alloc_cells]; simp [World.frozen?]
  · rw [frozen?_alloc_cells, frozen?_alloc_cells]; simp [World.frozen?]
end Go.Proofs.Ytieimijkkjhegaa
/- contract: the box around points -/
namespace Go.Proofs.Ytieimijkkjhegaa
open Go.ChangeShapes Go.WideShapes Go.ChangeAt Go.RowKit Go.Joins
set_option linter.unusedVariables false
set_option linter.unusedSimpArgs false
set_option maxRecDepth 4000
theorem min_if (x y : Int) : (if y < x then y else x) = min x y := by omega
theorem max_if (x y : Int) : (if x < y then y else x) = max x y := by omega
set_option maxRecDepth 100000 in
set_option maxHeartbeats 4000000 in
theorem boxAround_any (A : Option Addr) (c : Nat) (l : List (Int × Int)) (w : World) (h1 : 1 ≤ l.length) (hn : l.length ≤ 1000) (hR : Rd w w.heap.size A l) :
    Calls Try.prog 81 #[.slice A l.length c] w fun e w' => e = .returned (.tuple #[.agg #[.int .i64 (loN l l.length).1, .int .i64 (loN l l.length).2], .agg #[.int .i64 (hiN l l.length).1, .int .i64 (hiN l l.length).2]]) ∧ Below w.heap.size w w' := by
  obtain ⟨b, off, rfl, hb, HC⟩ := pts_of (by omega) hR
  clear hR
  generalize hN : l.length = n at *
  clear hN
  go_enter Try.func81, Try.ntmps81
  go_wp2_with fail
  obtain ⟨w1, hw1⟩ : ∃ w1, w1 = ((w.alloc (.cells #[.int .i64 0, .int .i64 0] 42)).alloc (.cells #[.int .i64 0, .int .i64 0] 42)) := ⟨_, rfl⟩
  rw [← hw1]
  have yw10_0 : w1.cell? ⟨w.heap.size, 0, none⟩ = some (.int .i64 0) := by rw [hw1]; go_simp
  have yw10_1 : w1.cell? ⟨w.heap.size, 1, none⟩ = some (.int .i64 0) := by rw [hw1]; go_simp
  have fw10 : ∀ o, w1.frozen? ⟨w.heap.size, o, none⟩ = false := by intro o; rw [hw1]; (repeat rw [frozen?_alloc_cells]); simp [World.frozen?]
  have zw10 : w.heap.size < w1.heap.size := by rw [hw1]; simp <;> omega
  have yw11_0 : w1.cell? ⟨w.heap.size + 1, 0, none⟩ = some (.int .i64 0) := by rw [hw1]; go_simp
  have yw11_1 : w1.cell? ⟨w.heap.size + 1, 1, none⟩ = some (.int .i64 0) := by rw [hw1]; go_simp
  have fw11 : ∀ o, w1.frozen? ⟨w.heap.size + 1, o, none⟩ = false := by intro o; rw [hw1]; (repeat rw [frozen?_alloc_cells]); simp [World.frozen?]
  have zw11 : w.heap.size + 1 < w1.heap.size := by rw [hw1]; simp <;> omega
  have Bw1 : Below w.heap.size w w1 := by rw [hw1]; exact (Below.alloc (Below.alloc (Below.refl _ _) (by simp <;> omega) _) (by simp <;> omega) _)
  have ew1 : Hid (w1.heap.size = w.heap.size + 2) := Lib.hid (by rw [hw1]; simp)
  clear hw1
  have x0 := HC.out w1 Bw1 0 (by omega)
  simp only [Nat.zero_mul, Nat.add_zero] at x0
  obtain ⟨x0, x1⟩ := x0
  have hbz : b < w1.heap.size := by omega
  have hn0 : 0 < n := by omega
  have RC := Lib.hid (And.intro yw10_0 (And.intro yw10_1 (And.intro yw11_0 yw11_1)))
  have RF := Lib.hid (And.intro fw10 fw11)
  have q1 := zw10
  have q2 := zw11
  have hb1 := Bw1
  clear yw10_0 yw10_1 yw11_0 yw11_1 fw10 fw11 zw10 zw11 Bw1
  go_region
  · skip
    have T0 := Lib.hid (two_new (p := vx l 0) (t := 42) (Below.refl w1.heap.size w1))
    obtain ⟨W0, hW0⟩ : ∃ W0, W0 = ((w1.alloc (.cells #[.int .i64 (vx l 0).1, .int .i64 (vx l 0).2] 42)).alloc (.cells #[.int .i64 (vx l 0).1, .int .i64 (vx l 0).2] 42)) := ⟨_, rfl⟩
    rw [← hW0] at T0 ⊢
    clear hW0 x0 x1
    obtain ⟨h, hp⟩ : ∃ x, x = w1.heap.size + 1 := ⟨_, rfl⟩
    rw [← hp] at T0 ⊢
    obtain ⟨g, hq⟩ : ∃ x, x = w1.heap.size := ⟨_, rfl⟩
    rw [← hq] at T0 ⊢
    have HQ1 := Lib.hid (show w.heap.size < w1.heap.size from q1)
    clear hp hq
    have T1 : Hid (Two w1 W0.drew g h (loN l 0) (hiN l 0)) := Lib.hid (by have := T0.out; exact ⟨this.below.drew, this.g0, this.g1, this.h0, this.h1, this.gf, this.hf, this.lo1, this.lo2, this.up1, this.up2, this.ne⟩)
    clear T0
    go_wp2_with fail
    go_loopg [16] n (fun gg i wr => ∃ k : Nat, k ≤ n ∧ gg = n - k ∧ i = .int .i64 k ∧ Hid (Two w1 wr g h (loN l k) (hiN l k)))
    case atStart => exact ⟨0, Nat.zero_le _, rfl, rfl, T1⟩
    case round =>
      clear T1
      obtain ⟨k, hk, hgg, rfl, hT⟩ := hrel
      rename World => wo
      have HGK := Lib.hid hgg
      clear hgg
      have t1 := hT.out.g0
      have t2 := hT.out.g1
      have t3 := hT.out.h0
      have t4 := hT.out.h1
      have t5 := hT.out.up1
      have t6 := hT.out.up2
      have t7 := hT.out.gf 0
      have t8 := hT.out.gf 1
      have t9 := hT.out.hf 0
      have t10 := hT.out.hf 1
      have tn := hT.out.ne
      have zw := hT.out.below.size
      by_cases hlt : k < n
      · obtain ⟨x0, x1⟩ := HC.out wo (hb1.trans (hT.out.below.mono hb1.size)) k hlt
        have hbo : b < wo.heap.size := by omega
        have L1 : Hid (loN l (k + 1) = (min (loN l k).1 (vx l k).1, min (loN l k).2 (vx l k).2)) := Lib.hid rfl
        have L2 : Hid (hiN l (k + 1) = (max (hiN l k).1 (vx l k).1, max (hiN l k).2 (vx l k).2)) := Lib.hid rfl
        have T2 := Lib.hid (two_high (two_low hT.out (min (loN l k).1 (vx l k).1) (min (loN l k).2 (vx l k).2)) (max (hiN l k).1 (vx l k).1) (max (hiN l k).2 (vx l k).2))
        have T3 := Lib.hid (two_below T2.out (Below.alloc (Below.refl _ _) (Nat.le_refl _) (.cells #[.int .i64 (vx l k).1, .int .i64 (vx l k).2] 42)))
        clear T2
        have mn := min_if
        have mx := max_if
        have cg : g ≠ wo.heap.size := by omega
        have ch : h ≠ wo.heap.size := by omega
        go_wp2_with fail
        go_roundg (n - (k + 1))
        case measure => have := HGK.out; omega
        case rel => exact ⟨k + 1, by omega, rfl, by go_num, Lib.hid (by rw [L1.out, L2.out]; exact T3.out)⟩
      · have hk3 : n = k := by omega
        subst hk3
        obtain ⟨r0, r1, r2, r3⟩ := RC.out
        have y0 := (hT.out.below.cell (p := ⟨w.heap.size, 0, none⟩) q1).trans r0
        have y1 := (hT.out.below.cell (p := ⟨w.heap.size, 1, none⟩) q1).trans r1
        have y2 := (hT.out.below.cell (p := ⟨w.heap.size + 1, 0, none⟩) q2).trans r2
        have y3 := (hT.out.below.cell (p := ⟨w.heap.size + 1, 1, none⟩) q2).trans r3
        have f0 := (hT.out.below.frozen (p := ⟨w.heap.size, 0, none⟩) q1).trans (RF.out.1 0)
        have f1 := (hT.out.below.frozen (p := ⟨w.heap.size, 1, none⟩) q1).trans (RF.out.1 1)
        have f2 := (hT.out.below.frozen (p := ⟨w.heap.size + 1, 0, none⟩) q2).trans (RF.out.2 0)
        have f3 := (hT.out.below.frozen (p := ⟨w.heap.size + 1, 1, none⟩) q2).trans (RF.out.2 1)
        have zr0 : w.heap.size < wo.heap.size := by omega
        have zr1 : w.heap.size + 1 < wo.heap.size := by omega
        have BW := hb1.trans (hT.out.below.mono hb1.size)
        have l1 := hT.out.lo1
        have l2 := hT.out.lo2
        have n1 : g ≠ w.heap.size := by omega
        have n2 : g ≠ w.heap.size + 1 := by omega
        have n3 : h ≠ w.heap.size := by omega
        have n4 : h ≠ w.heap.size + 1 := by omega
        have n5 := Ne.symm n1
        have n6 := Ne.symm n2
        have n7 := Ne.symm n3
        have n8 := Ne.symm n4
        clear r0 r1 r2 r3 hT l1 l2
        go_wp2_with fail
        go_region
        go_wp2_with fail
        refine bodyPost_ret (v := .tuple #[.agg #[.int .i64 (loN l n).1, .int .i64 (loN l n).2], .agg #[.int .i64 (hiN l n).1, .int .i64 (hiN l n).2]]) (by simp [results, Try.results81, go_sem, zr0, zr1, y0, y1, y2, y3]) rfl ⟨rfl, ?_⟩
        repeat (first | with_reducible assumption | with_reducible exact Below.refl _ _ | with_reducible apply Below.drew | ((with_reducible refine Below.setCell ?_ ?_ _); rotate_left; (first | exact Nat.le_refl _ | omega | (simp <;> omega))) | ((with_reducible refine Below.alloc ?_ ?_ _); rotate_left; (first | omega | (simp <;> omega))))
  · skip
    have T0 := Lib.hid (two_swap (two_new (p := vx l 0) (t := 42) (Below.refl w1.heap.size w1)))
    obtain ⟨W0, hW0⟩ : ∃ W0, W0 = ((w1.alloc (.cells #[.int .i64 (vx l 0).1, .int .i64 (vx l 0).2] 42)).alloc (.cells #[.int .i64 (vx l 0).1, .int .i64 (vx l 0).2] 42)) := ⟨_, rfl⟩
    rw [← hW0] at T0 ⊢
    clear hW0 x0 x1
    obtain ⟨g, hp⟩ : ∃ x, x = w1.heap.size + 1 := ⟨_, rfl⟩
    rw [← hp] at T0 ⊢
    obtain ⟨h, hq⟩ : ∃ x, x = w1.heap.size := ⟨_, rfl⟩
    rw [← hq] at T0 ⊢
    have HQ1 := Lib.hid (show w.heap.size < w1.heap.size from q1)
    clear hp hq
    have T1 : Hid (Two w1 W0.drew g h (loN l 0) (hiN l 0)) := Lib.hid (by have := T0.out; exact ⟨this.below.drew, this.g0, this.g1, this.h0, this.h1, this.gf, this.hf, this.lo1, this.lo2, this.up1, this.up2, this.ne⟩)
    clear T0
    go_wp2_with fail
    go_loopg [16] n (fun gg i wr => ∃ k : Nat, k ≤ n ∧ gg = n - k ∧ i = .int .i64 k ∧ Hid (Two w1 wr g h (loN l k) (hiN l k)))
    case atStart => exact ⟨0, Nat.zero_le _, rfl, rfl, T1⟩
    case round =>
      clear T1
      obtain ⟨k, hk, hgg, rfl, hT⟩ := hrel
      rename World => wo
      have HGK := Lib.hid hgg
      clear hgg
      have t1 := hT.out.g0
      have t2 := hT.out.g1
      have t3 := hT.out.h0
      have t4 := hT.out.h1
      have t5 := hT.out.up1
      have t6 := hT.out.up2
      have t7 := hT.out.gf 0
      have t8 := hT.out.gf 1
      have t9 := hT.out.hf 0
      have t10 := hT.out.hf 1
      have tn := hT.out.ne
      have zw := hT.out.below.size
      by_cases hlt : k < n
      · obtain ⟨x0, x1⟩ := HC.out wo (hb1.trans (hT.out.below.mono hb1.size)) k hlt
        have hbo : b < wo.heap.size := by omega
        have L1 : Hid (loN l (k + 1) = (min (loN l k).1 (vx l k).1, min (loN l k).2 (vx l k).2)) := Lib.hid rfl
        have L2 : Hid (hiN l (k + 1) = (max (hiN l k).1 (vx l k).1, max (hiN l k).2 (vx l k).2)) := Lib.hid rfl
        have T2 := Lib.hid (two_high (two_low hT.out (min (loN l k).1 (vx l k).1) (min (loN l k).2 (vx l k).2)) (max (hiN l k).1 (vx l k).1) (max (hiN l k).2 (vx l k).2))
        have T3 := Lib.hid (two_below T2.out (Below.alloc (Below.refl _ _) (Nat.le_refl _) (.cells #[.int .i64 (vx l k).1, .int .i64 (vx l k).2] 42)))
        clear T2
        have mn := min_if
        have mx := max_if
        have cg : g ≠ wo.heap.size := by omega
        have ch : h ≠ wo.heap.size := by omega
        go_wp2_with fail
        go_roundg (n - (k + 1))
        case measure => have := HGK.out; omega
        case rel => exact ⟨k + 1, by omega, rfl, by go_num, Lib.hid (by rw [L1.out, L2.out]; exact T3.out)⟩
      · have hk3 : n = k := by omega
        subst hk3
        obtain ⟨r0, r1, r2, r3⟩ := RC.out
        have y0 := (hT.out.below.cell (p := ⟨w.heap.size, 0, none⟩) q1).trans r0
        have y1 := (hT.out.below.cell (p := ⟨w.heap.size, 1, none⟩) q1).trans r1
        have y2 := (hT.out.below.cell (p := ⟨w.heap.size + 1, 0, none⟩) q2).trans r2
        have y3 := (hT.out.below.cell (p := ⟨w.heap.size + 1, 1, none⟩) q2).trans r3
        have f0 := (hT.out.below.frozen (p := ⟨w.heap.size, 0, none⟩) q1).trans (RF.out.1 0)
        have f1 := (hT.out.below.frozen (p := ⟨w.heap.size, 1, none⟩) q1).trans (RF.out.1 1)
        have f2 := (hT.out.below.frozen (p := ⟨w.heap.size + 1, 0, none⟩) q2).trans (RF.out.2 0)
        have f3 := (hT.out.below.frozen (p := ⟨w.heap.size + 1, 1, none⟩) q2).trans (RF.out.2 1)
        have zr0 : w.heap.size < wo.heap.size := by omega
        have zr1 : w.heap.size + 1 < wo.heap.size := by omega
        have BW := hb1.trans (hT.out.below.mono hb1.size)
        have l1 := hT.out.lo1
        have l2 := hT.out.lo2
        have n1 : g ≠ w.heap.size := by omega
        have n2 : g ≠ w.heap.size + 1 := by omega
        have n3 : h ≠ w.heap.size := by omega
        have n4 : h ≠ w.heap.size + 1 := by omega
        have n5 := Ne.symm n1
        have n6 := Ne.symm n2
        have n7 := Ne.symm n3
        have n8 := Ne.symm n4
        clear r0 r1 r2 r3 hT l1 l2
        go_wp2_with fail
        go_region
        go_wp2_with fail
        refine bodyPost_ret (v := .tuple #[.agg #[.int .i64 (loN l n).1, .int .i64 (loN l n).2], .agg #[.int .i64 (hiN l n).1, .int .i64 (hiN l n).2]]) (by simp [results, Try.results81, go_sem, zr0, zr1, y0, y1, y2, y3]) rfl ⟨rfl, ?_⟩
        repeat (first | with_reducible assumption | with_reducible exact Below.refl _ _ | with_reducible apply Below.drew | ((with_reducible refine Below.setCell ?_ ?_ _); rotate_left; (first | exact Nat.le_refl _ | omega | (simp <;> omega))) | ((with_reducible refine Below.alloc ?_ ?_ _); rotate_left; (first | omega | (simp <;> omega))))
end Go.Proofs.Ytieimijkkjhegaa
/- contracts: greatest of two, size of a number -/
namespace Go.Proofs.Ytieimijkkjhegaa
open Go.ChangeShapes Go.WideShapes Go.ChangeAt Go.RowKit Go.Joins
set_option linter.unusedVariables false
set_option linter.unusedSimpArgs false
set_option maxRecDepth 4000
theorem below_dr {B : Nat} {a w : World} (h : Below B a w) (n : Nat) : Below B a (w.drewN n) := ⟨h.os, h.tape, h.output, h.size, h.block⟩
theorem l1Most_any (a b : Int) (w : World) : Calls Try.prog 97 #[.int .i64 a, .int .i64 b] w fun e w' => e = .returned (.int .i64 (max a b)) ∧ w = w' := by
  by_cases h : b < a
  all_goals
    go_enter Try.func97, Try.ntmps97
    go_wp2
    go_ret
    exact ⟨ret_int (by omega), rfl⟩
theorem l1Abs_any (a : Int) (w : World) (h1 : -100000000000000 ≤ a) (h2 : a ≤ 100000000000000) : Calls Try.prog 57 #[.int .i64 a] w fun e w' => e = .returned (.int .i64 (a.natAbs : Int)) ∧ w = w' := by
  go_enter Try.func57, Try.ntmps57
  go_wp2_with fail
  refine (l1Most_any _ _ _).mono ?_; rintro e _ ⟨rfl, rfl⟩
  go_wp2_with fail
  go_ret
  exact ⟨ret_int (by omega), rfl⟩
end Go.Proofs.Ytieimijkkjhegaa
/- contracts: the greatest common divisor, on both sides; how many points a line has -/
namespace Go.Proofs.Ytieimijkkjhegaa
open Go.ChangeShapes Go.WideShapes Go.ChangeAt Go.RowKit Go.Joins
set_option linter.unusedVariables false
set_option linter.unusedSimpArgs false
set_option maxRecDepth 4000
theorem gcd_step (m n : Nat) : Nat.gcd n (m % n) = Nat.gcd m n := by rw [Nat.gcd_comm n, ← Nat.gcd_rec, Nat.gcd_comm]
theorem pgCommon_any (a b : Int) (w : World) (h1 : -1000000 ≤ a) (h2 : a ≤ 1000000) (h3 : -1000000 ≤ b) (h4 : b ≤ 1000000) :
    Calls Try.prog 128 #[.int .i64 a, .int .i64 b] w fun e w' => e = .returned (.int .i64 ((Nat.gcd a.natAbs b.natAbs : Nat) : Int)) ∧ Below w.heap.size w w' := by
  have m1 : (a.natAbs : Int) ≤ 1000000 := by omega
  have m2 : (b.natAbs : Int) ≤ 1000000 := by omega
  have A1 := Lib.hid (fun W => l1Abs_any a W (by omega) (by omega))
  have A2 := Lib.hid (fun W => l1Abs_any b W (by omega) (by omega))
  generalize a.natAbs = p at *
  generalize b.natAbs = q at *
  go_enter Try.func128, Try.ntmps128
  go_wp2_with fail
  refine (A1.out _).mono ?_; rintro e _ ⟨rfl, rfl⟩
  go_wp2_with fail
  refine (A2.out _).mono ?_; rintro e _ ⟨rfl, rfl⟩
  go_wp2_with fail
  clear A1 A2
  go_loopw [0, 1] (fun u v wr => ∃ m n : Nat, u = .int .i64 m ∧ v = .int .i64 n ∧ Nat.gcd m n = Nat.gcd p q ∧ (m : Int) ≤ 1000000 ∧ (n : Int) ≤ 1000000 ∧ Below w.heap.size w wr) (fun _ v _ => (intOf v).toNat)
  case atStart => exact ⟨p, q, rfl, rfl, rfl, m1, m2, Below.refl _ _⟩
  case round =>
    obtain ⟨m, n, rfl, rfl, hg, hm, hn, hB⟩ := hrel
    by_cases hz : 0 < n
    · have hG := Lib.hid hg
      clear hg
      go_wp2_with fail
      go_quiet (fail)
      have hmod : m % n < n := Nat.mod_lt _ hz
      go_roundw
      case rel => ((repeat apply Exists.intro); exact ⟨⟨n, m % n, by go_num, by go_num, by rw [gcd_step]; exact hG.out, hn, by omega, by repeat (first | exact hB | apply Below.drew | apply below_dr)⟩, rfl⟩)
      case measure => simp [intOf]; omega
    · have hn0 : n = 0 := by omega
      subst hn0
      rw [Nat.gcd_zero_right] at hg
      subst hg
      go_wp2_with fail
      go_ret
      exact ⟨rfl, hB⟩
theorem tmod_step (x y : Int) : Nat.gcd y.natAbs (x.tmod y).natAbs = Nat.gcd x.natAbs y.natAbs := by
  rw [Int.natAbs_tmod]; exact gcd_step _ _
theorem tmod_bd (x y : Int) (h : y ≠ 0) : (x.tmod y).natAbs < y.natAbs := by
  rw [Int.natAbs_tmod]; exact Nat.mod_lt _ (by omega)
theorem greatestDivisor_any (a b : Int) (w : World) (h1 : -1000000 ≤ a) (h2 : a ≤ 1000000) (h3 : -1000000 ≤ b) (h4 : b ≤ 1000000) :
    Calls Try.prog 136 #[.int .i64 a, .int .i64 b] w fun e w' => e = .returned (.int .i64 ((Nat.gcd a.natAbs b.natAbs : Nat) : Int)) ∧ Below w.heap.size w w' := by
  have R : ∃ r, r = Nat.gcd a.natAbs b.natAbs := ⟨_, rfl⟩
  obtain ⟨r, hr⟩ := R
  rw [← hr]
  have HR := Lib.hid hr
  clear hr
  go_enter Try.func136, Try.ntmps136
  go_wp2_with fail
  go_loopw [0, 1] (fun u v wr => ∃ x y : Int, u = .int .i64 x ∧ v = .int .i64 y ∧ Hid (r = Nat.gcd x.natAbs y.natAbs) ∧ -1000000 ≤ x ∧ x ≤ 1000000 ∧ -1000000 ≤ y ∧ y ≤ 1000000 ∧ Below w.heap.size w wr) (fun _ v _ => (intOf v).natAbs)
  case atStart => exact ⟨a, b, rfl, rfl, HR, h1, h2, h3, h4, Below.refl _ _⟩
  case round =>
    obtain ⟨x, y, rfl, rfl, hg, hx1, hx2, hy1, hy2, hB⟩ := hrel
    by_cases hz : y = 0
    · subst hz
      go_wp2_with fail
      all_goals
        go_ret
        exact ⟨ret_int (by have := hg.out; simp at this; omega), hB⟩
    · go_wp2_with fail
      go_quiet (fail)
      have hmod := tmod_bd x y hz
      go_roundw
      case rel => ((repeat apply Exists.intro); exact ⟨⟨y, x.tmod y, by go_num, by go_num, by rw [tmod_step]; exact hg, hy1, hy2, by omega, by omega, by repeat (first | exact hB | apply Below.drew | apply below_dr)⟩, rfl⟩)
      case measure => simpa [intOf] using hmod
theorem stepsTo_any (a1 a2 b1 b2 : Int) (w : World) (ha : Sz a1 a2) (hb : Sz b1 b2) :
    Calls Try.prog 129 #[.agg #[.int .i64 a1, .int .i64 a2], .agg #[.int .i64 b1, .int .i64 b2]] w fun e w' => e = .returned (.int .i64 (stepN a1 a2 b1 b2)) ∧ Below w.heap.size w w' := by
  obtain ⟨x1, x2, x3, x4⟩ := ha
  obtain ⟨x5, x6, x7, x8⟩ := hb
  go_enter Try.func129, Try.ntmps129
  go_wp2_with fail
  refine (greatestDivisor_any _ _ _ (by omega) (by omega) (by omega) (by omega)).mono ?_; rintro e w1 ⟨rfl, hb1⟩
  obtain ⟨hc1, hf1⟩ := bcell hb1
  have z1_0 : w.heap.size < w1.heap.size := by (have := hb1.size; simp at this; omega)
  have z1_1 : w.heap.size + 1 < w1.heap.size := by (have := hb1.size; simp at this; omega)
  have B1 : Below w.heap.size w w1 := (Below.alloc (Below.alloc (Below.refl _ _) (by simp <;> omega) _) (by simp <;> omega) _).trans (hb1.mono (by simp <;> omega))
  go_wp2_with fail
  go_ret
  exact ⟨ret_int (by unfold stepN; rw [show (b1 - a1).natAbs = (a1 - b1).natAbs by omega, show (b2 - a2).natAbs = (a2 - b2).natAbs by omega]), B1⟩
end Go.Proofs.Ytieimijkkjhegaa
/- contracts: the program's sums around a polygon -/
namespace Go.Proofs.Ytieimijkkjhegaa
open Go.ChangeShapes Go.WideShapes Go.ChangeAt Go.RowKit Go.Joins
set_option linter.unusedVariables false
set_option linter.unusedSimpArgs false
set_option maxRecDepth 4000
theorem steps_any (p q : Int × Int) (b1 b2 : Int) (w : World) (hp : isPg p = true) (hq : isPg q = true) :
    Calls Try.prog 101 #[.agg #[.int .i64 p.1, .int .i64 p.2, .int .i64 b1, .int .i64 b2, .int .i64 q.1, .int .i64 q.2]] w fun e w' => e = .returned (.int .i64 (stepN p.1 p.2 q.1 q.2)) ∧ Below w.heap.size w w' := by
  have K := Lib.hid (fun W => stepsTo_any p.1 p.2 q.1 q.2 W (sz_of hp) (sz_of hq))
  clear hp hq
  go_enter Try.func101, Try.ntmps101
  go_wp2_with fail
  refine (K.out _).mono ?_; rintro e w1 ⟨rfl, hb1⟩
  obtain ⟨hc1, hf1⟩ := bcell hb1
  have z1_0 : w.heap.size < w1.heap.size := by (have := hb1.size; simp at this; omega)
  have B1 : Below w.heap.size w w1 := (Below.alloc (Below.refl _ _) (by simp <;> omega) _).trans (hb1.mono (by simp <;> omega))
  go_wp2_with fail
  go_ret
  exact ⟨rfl, B1⟩
set_option maxHeartbeats 2000000 in
theorem sumAroundW_any (A : Option Addr) (c : Nat) (l : List (Int × Int)) (w : World) (fid : Nat) (f : Nat → Int) (h1 : 1 ≤ l.length) (hn : l.length ≤ 60) (hR : Rd w w.heap.size A l)
    (hcf : ∀ args W, (callFunc fid args).run Try.prog W = .ok (Next.enter fid args) W) (hf : ∀ i, i < l.length → -100000 ≤ f i ∧ f i ≤ 100000)
    (hK : ∀ i, i < l.length → ∀ W, Calls Try.prog fid #[.agg #[.int .i64 (vx l i).1, .int .i64 (vx l i).2, .int .i64 (vx l (i + l.length - 1)).1, .int .i64 (vx l (i + l.length - 1)).2, .int .i64 (vx l (i + 1)).1, .int .i64 (vx l (i + 1)).2]] W
      fun e w' => e = .returned (.int .i64 (f i)) ∧ Below W.heap.size W w') :
    Calls Try.prog 100 #[.slice A l.length c, .func (.func fid) #[] #[]] w fun e w' => e = .returned (.int .i64 (sumTo f l.length)) ∧ Below w.heap.size w w' := by
  have KC := Lib.hid (fun W (hb : Below w.heap.size w W) => cornersAroundW_any A c l W (by omega) (by omega) (rd_more (rd_below hR hb (Nat.le_refl _)) hb.size))
  have HB : Hid (∀ k, k ≤ l.length → -(100000 * (k : Int)) ≤ sumTo f k ∧ sumTo f k ≤ 100000 * (k : Int)) := Lib.hid (fun k hk => sumTo_bd k fun i hi => hf i (by omega))
  have HK := Lib.hid hK
  have HS : Hid (∀ k, sumTo f (k + 1) = sumTo f k + f k) := Lib.hid (fun k => rfl)
  have H0 : Hid (sumTo f 0 = 0) := Lib.hid rfl
  clear hR hf hK
  generalize hN : l.length = n at *
  have HN := Lib.hid hN
  clear hN
  go_enter Try.func100, Try.ntmps100
  go_wp2_with fail
  refine (KC.out w (Below.refl _ _)).mono ?_; rintro e w2 ⟨rfl, hb2, hSC⟩
  obtain ⟨g, hg⟩ : ∃ g, g = w.heap.size := ⟨_, rfl⟩
  rw [← hg] at hSC ⊢
  have hgs : g < w2.heap.size := hSC.1
  have CE : Hid (∀ W, Below w2.heap.size w2 W → ∀ i, i < n → (W.cell? ⟨g, i * 6, none⟩ = some (.int .i64 (vx l i).1) ∧ W.cell? ⟨g, i * 6 + 1, none⟩ = some (.int .i64 (vx l i).2) ∧ W.cell? ⟨g, i * 6 + 2, none⟩ = some (.int .i64 (vx l (i + n - 1)).1) ∧ W.cell? ⟨g, i * 6 + 3, none⟩ = some (.int .i64 (vx l (i + n - 1)).2) ∧ W.cell? ⟨g, i * 6 + 4, none⟩ = some (.int .i64 (vx l (i + 1)).1) ∧ W.cell? ⟨g, i * 6 + 5, none⟩ = some (.int .i64 (vx l (i + 1)).2))) := Lib.hid (fun W hW i hi => by
    obtain ⟨c0, c1, c2, c3, c4, c5⟩ := hSC.2.2 i hi
    have hc := (bcell hW).1
    exact ⟨(hc _ _ hgs).trans c0, (hc _ _ hgs).trans c1, (hc _ _ hgs).trans c2, (hc _ _ hgs).trans c3, (hc _ _ hgs).trans c4, (hc _ _ hgs).trans c5⟩)
  have TR : Hid (∀ W, Below w2.heap.size w2 W → Below w.heap.size w W) := Lib.hid (fun W hW => hb2.trans (hW.mono hb2.size))
  clear KC hb2 hSC hg
  go_wp2_with fail
  go_loopg [5, 11] n (fun gg s i wr => ∃ k : Nat, k ≤ n ∧ gg = n - k ∧ i = .int .i64 k ∧ s = .int .i64 (sumTo f k) ∧ Below w2.heap.size w2 wr)
  case atStart => exact ⟨0, Nat.zero_le _, rfl, rfl, by rw [H0.out], Below.refl _ _⟩
  case round =>
    obtain ⟨k, hk, hgg, rfl, rfl, hB⟩ := hrel
    rename World => wo
    have HGK := Lib.hid hgg
    clear hgg
    by_cases hlt : k < n
    · obtain ⟨x0, x1, x2, x3, x4, x5⟩ := CE.out wo hB k hlt
      have hzB := hB.size
      have hgo : g < wo.heap.size := by omega
      have T := Lib.hid (fun W => HK.out k hlt W)
      have e0 := HS.out k
      obtain ⟨b1, b2⟩ := HB.out (k + 1) (by omega)
      rw [e0] at b1 b2
      have E0 := Lib.hid e0
      clear e0
      generalize f k = t at *
      generalize hs : sumTo f k = s at *
      have HSS := Lib.hid hs
      clear hs
      have hsm : -9000000 ≤ s + t ∧ s + t ≤ 9000000 := by omega
      clear b1 b2
      obtain ⟨b1, b2⟩ := hsm
      go_wp2_with fail
      refine (T.out _).mono ?_; rintro e w3 ⟨rfl, hb3⟩
      have B3 := (Below.alloc hB hzB (.cells #[.int .i64 (vx l k).1, .int .i64 (vx l k).2, .int .i64 (vx l (k + n - 1)).1, .int .i64 (vx l (k + n - 1)).2, .int .i64 (vx l (k + 1)).1, .int .i64 (vx l (k + 1)).2] 122)).trans (hb3.mono (by simp; omega))
      clear x0 x1 x2 x3 x4 x5 hb3 T
      go_wp2_with fail
      go_roundg (n - (k + 1))
      case measure => have := HGK.out; omega
      case rel => exact ⟨k + 1, by omega, rfl, by go_num, by rw [E0.out], B3⟩
    · have hkn : n = k := by omega
      subst hkn
      have BB := Lib.hid (TR.out _ hB)
      go_wp2_with fail
      go_ret
      exact ⟨rfl, BB.out⟩
theorem sumAround_any (A : Option Addr) (c : Nat) (l : List (Int × Int)) (w : World) (fid : Nat) (f : Nat → Int) (h1 : 1 ≤ l.length) (hn : l.length ≤ 10) (hR : Rd w w.heap.size A l)
    (hcf : ∀ args W, (callFunc fid args).run Try.prog W = .ok (Next.enter fid args) W) (hf : ∀ i, i < l.length → -100000 ≤ f i ∧ f i ≤ 100000)
    (hK : ∀ i, i < l.length → ∀ W, Calls Try.prog fid #[.agg #[.int .i64 (vx l i).1, .int .i64 (vx l i).2, .int .i64 (vx l (i + l.length - 1)).1, .int .i64 (vx l (i + l.length - 1)).2, .int .i64 (vx l (i + 1)).1, .int .i64 (vx l (i + 1)).2]] W
      fun e w' => e = .returned (.int .i64 (f i)) ∧ Below W.heap.size W w') :
    Calls Try.prog 100 #[.slice A l.length c, .func (.func fid) #[] #[]] w fun e w' => e = .returned (.int .i64 (sumTo f l.length)) ∧ Below w.heap.size w w' := sumAroundW_any A c l w fid f h1 (by omega) hR hcf hf hK
end Go.Proofs.Ytieimijkkjhegaa
/- contracts: TwiceArea, PegsOn and PegsInside, on both sides -/
namespace Go.Proofs.Ytieimijkkjhegaa
open Go.ChangeShapes Go.WideShapes Go.ChangeAt Go.RowKit Go.Joins
set_option linter.unusedVariables false
set_option linter.unusedSimpArgs false
set_option maxRecDepth 4000
def gi (b : Bool) (x : Int) : Int := if b = true then x else 0
theorem ret_tup {a b : Int} {c : Bool} (h : a = b) : Ending.returned (.tuple #[.int .i64 a, .bool c]) = .returned (.tuple #[.int .i64 b, .bool c]) := by rw [h]
theorem gi_true (x : Int) : gi true x = x := rfl
theorem gi_false (x : Int) : gi false x = 0 := rfl
theorem sumPegsOn_any (A : Option Addr) (c : Nat) (l : List (Int × Int)) (w : World) (hg : Good l) (hR : Rd w w.heap.size A l) :
    Calls Try.prog 100 #[.slice A l.length c, .func (.func 101) #[] #[]] w fun e w' => e = .returned (.int .i64 (onN l)) ∧ Below w.heap.size w w' :=
  sumAround_any A c l w 101 (fun i => stepN (vx l i).1 (vx l i).2 (vx l (i + 1)).1 (vx l (i + 1)).2) (good_pos hg) hg.few.2 hR Try.call101
    (fun i _ => by have := stepN_bd (a1 := (vx l i).1) (a2 := (vx l i).2) (b1 := (vx l (i + 1)).1) (b2 := (vx l (i + 1)).2) (vx_pg hg.pegs (good_pos hg) i) (vx_pg hg.pegs (good_pos hg) (i + 1)); omega)
    (fun i _ W => steps_any _ _ _ _ W (vx_pg hg.pegs (good_pos hg) i) (vx_pg hg.pegs (good_pos hg) (i + 1)))
end Go.Proofs.Ytieimijkkjhegaa
/- contracts: bounds of both sums -/
namespace Go.Proofs.Ytieimijkkjhegaa
open Go.ChangeShapes Go.WideShapes Go.ChangeAt Go.RowKit Go.Joins
set_option linter.unusedVariables false
set_option linter.unusedSimpArgs false
set_option maxRecDepth 4000
theorem area_bd {l : List (Int × Int)} (hg : Good l) : -40000 ≤ areaN l ∧ areaN l ≤ 40000 := by
  have := sh_bd hg.pegs (good_pos hg) l.length
  have h1 := hg.few
  unfold areaN
  omega
theorem on_bd {l : List (Int × Int)} (hg : Good l) : -1600 ≤ onN l ∧ onN l ≤ 1600 := by
  have := rn_bd hg.pegs (good_pos hg) l.length
  have h1 := hg.few
  unfold onN
  omega
end Go.Proofs.Ytieimijkkjhegaa
/- contracts: the model's sums around a polygon -/
namespace Go.Proofs.Ytieimijkkjhegaa
open Go.ChangeShapes Go.WideShapes Go.ChangeAt Go.RowKit Go.Joins
set_option linter.unusedVariables false
set_option linter.unusedSimpArgs false
set_option maxRecDepth 4000
set_option maxHeartbeats 2000000 in
theorem pgAreaW_any (A : Option Addr) (c : Nat) (l : List (Int × Int)) (w : World) (h3 : 3 ≤ l.length) (hn : l.length ≤ 60) (hp : ∀ i, i < l.length → isPg (vx l i) = true) (hR : Rd w w.heap.size A l) :
    Calls Try.prog 58 #[.slice A l.length c] w fun e w' => e = .returned (.int .i64 (areaN l)) ∧ Below w.heap.size w w' := by
  obtain ⟨b, off, rfl, hb, HC⟩ := pts_of (by omega) hR
  have ZP := Lib.hid (fun i => pgs_sz hp i (by omega))
  have HA := Lib.hid (fan_all l h3)
  have HB := Lib.hid (fun i h => fan_bdW hp (by omega) i h)
  have H2 := fan_two l
  have HS := Lib.hid (fun i h => fan_step l i h)
  clear hp hR
  generalize hN : l.length = n at *
  have HN := Lib.hid hN
  clear hN
  go_enter Try.func58, Try.ntmps58
  go_wp2_with fail
  go_loopg [3, 4] (n - 2) (fun g s i wr => ∃ k : Nat, 2 ≤ k ∧ k ≤ n ∧ g = n - k ∧ i = .int .i64 k ∧ s = .int .i64 (fanTo l k) ∧ Below w.heap.size w wr)
  case atStart => exact ⟨2, Nat.le_refl _, by omega, by omega, rfl, by rw [H2], Below.refl _ _⟩
  case round =>
    clear H2
    obtain ⟨k, hk2, hk, hg, rfl, rfl, hB⟩ := hrel
    rename World => wo
    have HGK := Lib.hid hg
    clear hg
    by_cases hlt : k < n
    · have T := Lib.hid (fun W => (show Calls Try.prog 98 #[.agg #[.int .i64 (vx l 0).1, .int .i64 (vx l 0).2], .agg #[.int .i64 (vx l (k - 1)).1, .int .i64 (vx l (k - 1)).2], .agg #[.int .i64 (vx l k).1, .int .i64 (vx l k).2]] W fun e w' => e = .returned (.int .i64 (twP (vx l 0) (vx l (k - 1)) (vx l k))) ∧ Below W.heap.size W w' from
        pgTurn_any _ _ _ _ _ _ W (ZP.out _) (ZP.out _) (ZP.out _)))
      have e0 := HS.out k hk2
      obtain ⟨b1, b2⟩ := HB.out (k + 1) (by omega)
      rw [e0] at b1 b2
      have E0 := Lib.hid e0
      clear e0
      generalize twP (vx l 0) (vx l (k - 1)) (vx l k) = t at *
      generalize hs : fanTo l k = s at *
      have HSS := Lib.hid hs
      clear hs
      have e1 : IntKind.i64.wrap ((k : Int) - 1) = (k : Int) - 1 := IntWalk.i64_in _ (by omega)
      have e2 : ((k : Int) - 1).toNat = k - 1 := by omega
      have e3 : (0 : Int) ≤ (k : Int) - 1 := by omega
      have e5 : (k : Int) - 1 < (n : Int) := by omega
      have e4 : IntKind.i64.wrap (s + t) = s + t := IntWalk.i64_in _ (by omega)
      go_wp2_with fail
      have e6 : 0 < n := by omega
      have e7 : (1 : Int) ≤ (k : Int) := by omega
      refine wp_region_B (fun W => Below w.heap.size w W) (by kernel_rfl) hB.drew ?_
      first | refine wpB_skip 0 rfl (by kernel_rfl) (by kernel_rfl) (by kernel_rfl) (by rfl) ?_ | (refine wpB_text 0 (v := ?_) rfl (by kernel_rfl) (by kernel_rfl) (by kernel_rfl) (by rfl) (fun W hW => ?_) ?_; rotate_left; (have k1 := hW; have c0 := HC.out W k1 0 (by omega); have c1 := HC.out W k1 (k - 1) (by omega); have c2 := HC.out W k1 k hlt; simp only [Nat.zero_mul, Nat.add_zero] at c0; go_simp; refine comes_v ?_; exact k1))
      (try simp only [Act.put, List.setIfInBounds_toArray, List.set_cons_zero, List.set_cons_succ])
      first | refine wpB_skip 1 rfl (by kernel_rfl) (by kernel_rfl) (by kernel_rfl) (by rfl) ?_ | (refine wpB_text 1 (v := ?_) rfl (by kernel_rfl) (by kernel_rfl) (by kernel_rfl) (by rfl) (fun W hW => ?_) ?_; rotate_left; (have k1 := hW; have c0 := HC.out W k1 0 (by omega); have c1 := HC.out W k1 (k - 1) (by omega); have c2 := HC.out W k1 k hlt; simp only [Nat.zero_mul, Nat.add_zero] at c0; go_simp; refine comes_v ?_; exact k1))
      (try simp only [Act.put, List.setIfInBounds_toArray, List.set_cons_zero, List.set_cons_succ])
      first | refine wpB_skip 2 rfl (by kernel_rfl) (by kernel_rfl) (by kernel_rfl) (by rfl) ?_ | (refine wpB_text 2 (v := ?_) rfl (by kernel_rfl) (by kernel_rfl) (by kernel_rfl) (by rfl) (fun W hW => ?_) ?_; rotate_left; (have k1 := hW; have c0 := HC.out W k1 0 (by omega); have c1 := HC.out W k1 (k - 1) (by omega); have c2 := HC.out W k1 k hlt; simp only [Nat.zero_mul, Nat.add_zero] at c0; go_simp; refine comes_v ?_; exact k1))
      (try simp only [Act.put, List.setIfInBounds_toArray, List.set_cons_zero, List.set_cons_succ])
      first | refine wpB_skip 3 rfl (by kernel_rfl) (by kernel_rfl) (by kernel_rfl) (by rfl) ?_ | (refine wpB_text 3 (v := ?_) rfl (by kernel_rfl) (by kernel_rfl) (by kernel_rfl) (by rfl) (fun W hW => ?_) ?_; rotate_left; (have k1 := hW; have c0 := HC.out W k1 0 (by omega); have c1 := HC.out W k1 (k - 1) (by omega); have c2 := HC.out W k1 k hlt; simp only [Nat.zero_mul, Nat.add_zero] at c0; go_simp; refine comes_v ?_; exact k1))
      (try simp only [Act.put, List.setIfInBounds_toArray, List.set_cons_zero, List.set_cons_succ])
      first | refine wpB_skip 4 rfl (by kernel_rfl) (by kernel_rfl) (by kernel_rfl) (by rfl) ?_ | (refine wpB_text 4 (v := ?_) rfl (by kernel_rfl) (by kernel_rfl) (by kernel_rfl) (by rfl) (fun W hW => ?_) ?_; rotate_left; (have k1 := hW; have c0 := HC.out W k1 0 (by omega); have c1 := HC.out W k1 (k - 1) (by omega); have c2 := HC.out W k1 k hlt; simp only [Nat.zero_mul, Nat.add_zero] at c0; go_simp; refine comes_v ?_; exact k1))
      (try simp only [Act.put, List.setIfInBounds_toArray, List.set_cons_zero, List.set_cons_succ])
      first | refine wpB_skip 5 rfl (by kernel_rfl) (by kernel_rfl) (by kernel_rfl) (by rfl) ?_ | (refine wpB_text 5 (v := ?_) rfl (by kernel_rfl) (by kernel_rfl) (by kernel_rfl) (by rfl) (fun W hW => ?_) ?_; rotate_left; (have k1 := hW; have c0 := HC.out W k1 0 (by omega); have c1 := HC.out W k1 (k - 1) (by omega); have c2 := HC.out W k1 k hlt; simp only [Nat.zero_mul, Nat.add_zero] at c0; go_simp; refine comes_v ?_; exact k1))
      (try simp only [Act.put, List.setIfInBounds_toArray, List.set_cons_zero, List.set_cons_succ])
      first | refine wpB_skip 6 rfl (by kernel_rfl) (by kernel_rfl) (by kernel_rfl) (by rfl) ?_ | (refine wpB_text 6 (v := ?_) rfl (by kernel_rfl) (by kernel_rfl) (by kernel_rfl) (by rfl) (fun W hW => ?_) ?_; rotate_left; (have k1 := hW; have c0 := HC.out W k1 0 (by omega); have c1 := HC.out W k1 (k - 1) (by omega); have c2 := HC.out W k1 k hlt; simp only [Nat.zero_mul, Nat.add_zero] at c0; go_simp; refine comes_v ?_; exact k1))
      (try simp only [Act.put, List.setIfInBounds_toArray, List.set_cons_zero, List.set_cons_succ])
      first | refine wpB_skip 7 rfl (by kernel_rfl) (by kernel_rfl) (by kernel_rfl) (by rfl) ?_ | (refine wpB_text 7 (v := ?_) rfl (by kernel_rfl) (by kernel_rfl) (by kernel_rfl) (by rfl) (fun W hW => ?_) ?_; rotate_left; (have k1 := hW; have c0 := HC.out W k1 0 (by omega); have c1 := HC.out W k1 (k - 1) (by omega); have c2 := HC.out W k1 k hlt; simp only [Nat.zero_mul, Nat.add_zero] at c0; go_simp; refine comes_v ?_; exact k1))
      (try simp only [Act.put, List.setIfInBounds_toArray, List.set_cons_zero, List.set_cons_succ])
      first | refine wpB_skip 8 rfl (by kernel_rfl) (by kernel_rfl) (by kernel_rfl) (by rfl) ?_ | (refine wpB_text 8 (v := ?_) rfl (by kernel_rfl) (by kernel_rfl) (by kernel_rfl) (by rfl) (fun W hW => ?_) ?_; rotate_left; (have k1 := hW; have c0 := HC.out W k1 0 (by omega); have c1 := HC.out W k1 (k - 1) (by omega); have c2 := HC.out W k1 k hlt; simp only [Nat.zero_mul, Nat.add_zero] at c0; go_simp; refine comes_v ?_; exact k1))
      (try simp only [Act.put, List.setIfInBounds_toArray, List.set_cons_zero, List.set_cons_succ])
      first | refine wpB_skip 9 rfl (by kernel_rfl) (by kernel_rfl) (by kernel_rfl) (by rfl) ?_ | (refine wpB_text 9 (v := ?_) rfl (by kernel_rfl) (by kernel_rfl) (by kernel_rfl) (by rfl) (fun W hW => ?_) ?_; rotate_left; (have k1 := hW; have c0 := HC.out W k1 0 (by omega); have c1 := HC.out W k1 (k - 1) (by omega); have c2 := HC.out W k1 k hlt; simp only [Nat.zero_mul, Nat.add_zero] at c0; go_simp; refine comes_v ?_; exact k1))
      (try simp only [Act.put, List.setIfInBounds_toArray, List.set_cons_zero, List.set_cons_succ])
      first | refine wpB_skip 10 rfl (by kernel_rfl) (by kernel_rfl) (by kernel_rfl) (by rfl) ?_ | (refine wpB_text 10 (v := ?_) rfl (by kernel_rfl) (by kernel_rfl) (by kernel_rfl) (by rfl) (fun W hW => ?_) ?_; rotate_left; (have k1 := hW; have c0 := HC.out W k1 0 (by omega); have c1 := HC.out W k1 (k - 1) (by omega); have c2 := HC.out W k1 k hlt; simp only [Nat.zero_mul, Nat.add_zero] at c0; go_simp; refine comes_v ?_; exact k1))
      (try simp only [Act.put, List.setIfInBounds_toArray, List.set_cons_zero, List.set_cons_succ])
      first | refine wpB_skip 11 rfl (by kernel_rfl) (by kernel_rfl) (by kernel_rfl) (by rfl) ?_ | (refine wpB_text 11 (v := ?_) rfl (by kernel_rfl) (by kernel_rfl) (by kernel_rfl) (by rfl) (fun W hW => ?_) ?_; rotate_left; (have k1 := hW; have c0 := HC.out W k1 0 (by omega); have c1 := HC.out W k1 (k - 1) (by omega); have c2 := HC.out W k1 k hlt; simp only [Nat.zero_mul, Nat.add_zero] at c0; go_simp; refine comes_v ?_; exact k1))
      (try simp only [Act.put, List.setIfInBounds_toArray, List.set_cons_zero, List.set_cons_succ])
      first | refine wpB_skip 12 rfl (by kernel_rfl) (by kernel_rfl) (by kernel_rfl) (by rfl) ?_ | (refine wpB_text 12 (v := ?_) rfl (by kernel_rfl) (by kernel_rfl) (by kernel_rfl) (by rfl) (fun W hW => ?_) ?_; rotate_left; (have k1 := hW; have c0 := HC.out W k1 0 (by omega); have c1 := HC.out W k1 (k - 1) (by omega); have c2 := HC.out W k1 k hlt; simp only [Nat.zero_mul, Nat.add_zero] at c0; go_simp; refine comes_v ?_; exact k1))
      (try simp only [Act.put, List.setIfInBounds_toArray, List.set_cons_zero, List.set_cons_succ])
      first | refine wpB_skip 13 rfl (by kernel_rfl) (by kernel_rfl) (by kernel_rfl) (by rfl) ?_ | (refine wpB_text 13 (v := .int .i64 t) rfl (by kernel_rfl) (by kernel_rfl) (by kernel_rfl) (by rfl) (fun W hW => ?_) ?_; (have k1 := hW; have c0 := HC.out W k1 0 (by omega); have c1 := HC.out W k1 (k - 1) (by omega); have c2 := HC.out W k1 k hlt; simp only [Nat.zero_mul, Nat.add_zero] at c0; go_simp; exact comes_c ( T.out _) (fun wn hbn => bt_keep k1 hbn)))
      (try simp only [Act.put, List.setIfInBounds_toArray, List.set_cons_zero, List.set_cons_succ])
      first | refine wpB_skip 14 rfl (by kernel_rfl) (by kernel_rfl) (by kernel_rfl) (by rfl) ?_ | (refine wpB_text 14 (v := ?_) rfl (by kernel_rfl) (by kernel_rfl) (by kernel_rfl) (by rfl) (fun W hW => ?_) ?_; rotate_left; (have k1 := hW; have c0 := HC.out W k1 0 (by omega); have c1 := HC.out W k1 (k - 1) (by omega); have c2 := HC.out W k1 k hlt; simp only [Nat.zero_mul, Nat.add_zero] at c0; go_simp; refine comes_v ?_; exact k1))
      (try simp only [Act.put, List.setIfInBounds_toArray, List.set_cons_zero, List.set_cons_succ])
      first | refine wpB_skip 15 rfl (by kernel_rfl) (by kernel_rfl) (by kernel_rfl) (by rfl) ?_ | (refine wpB_text 15 (v := ?_) rfl (by kernel_rfl) (by kernel_rfl) (by kernel_rfl) (by rfl) (fun W hW => ?_) ?_; rotate_left; (have k1 := hW; have c0 := HC.out W k1 0 (by omega); have c1 := HC.out W k1 (k - 1) (by omega); have c2 := HC.out W k1 k hlt; simp only [Nat.zero_mul, Nat.add_zero] at c0; go_simp; refine comes_v ?_; exact k1))
      (try simp only [Act.put, List.setIfInBounds_toArray, List.set_cons_zero, List.set_cons_succ])
      refine wpB_done (by kernel_rfl) ?_ _
      intro W hW; have k1 := hW
      clear e1 e2 e3 e4 e5 e6 e7
      go_wp2_with fail
      go_roundg (n - (k + 1))
      case measure => have := HGK.out; omega
      case rel => exact ⟨k + 1, by omega, by omega, rfl, by go_num, by rw [E0.out], k1⟩
    · have hkn : n = k := by omega
      subst hkn
      rw [HA.out]
      go_wp2_with fail
      go_ret
      exact ⟨rfl, hB⟩
theorem pgArea_any (A : Option Addr) (c : Nat) (l : List (Int × Int)) (w : World) (h3 : 3 ≤ l.length) (hn : l.length ≤ 10) (hp : ∀ i, i < l.length → isPg (vx l i) = true) (hR : Rd w w.heap.size A l) :
    Calls Try.prog 58 #[.slice A l.length c] w fun e w' => e = .returned (.int .i64 (areaN l)) ∧ Below w.heap.size w w' := pgAreaW_any A c l w h3 (by omega) hp hR
end Go.Proofs.Ytieimijkkjhegaa
/- contract: how many steps a line has, the model -/
namespace Go.Proofs.Ytieimijkkjhegaa
open Go.ChangeShapes Go.WideShapes Go.ChangeAt Go.RowKit Go.Joins
set_option linter.unusedVariables false
set_option linter.unusedSimpArgs false
set_option maxRecDepth 4000
theorem pgStep_any (a1 a2 b1 b2 : Int) (w : World) (ha : Sz a1 a2) (hb : Sz b1 b2) :
    Calls Try.prog 99 #[.agg #[.int .i64 a1, .int .i64 a2], .agg #[.int .i64 b1, .int .i64 b2]] w fun e w' => e = .returned (.int .i64 (stepN a1 a2 b1 b2)) ∧ Below w.heap.size w w' := by
  obtain ⟨x1, x2, x3, x4⟩ := ha
  obtain ⟨x5, x6, x7, x8⟩ := hb
  go_enter Try.func99, Try.ntmps99
  go_wp2_with fail
  refine (pgCommon_any _ _ _ (by omega) (by omega) (by omega) (by omega)).mono ?_; rintro e w1 ⟨rfl, hb1⟩
  obtain ⟨hc1, hf1⟩ := bcell hb1
  have z1_0 : w.heap.size < w1.heap.size := by (have := hb1.size; simp at this; omega)
  have z1_1 : w.heap.size + 1 < w1.heap.size := by (have := hb1.size; simp at this; omega)
  have B1 : Below w.heap.size w w1 := (Below.alloc (Below.alloc (Below.refl _ _) (by simp <;> omega) _) (by simp <;> omega) _).trans (hb1.mono (by simp <;> omega))
  go_wp2_with fail
  go_ret
  exact ⟨rfl, B1⟩
end Go.Proofs.Ytieimijkkjhegaa
/- contracts: the model's count of steps around a polygon, of points inside -/
namespace Go.Proofs.Ytieimijkkjhegaa
open Go.ChangeShapes Go.WideShapes Go.ChangeAt Go.RowKit Go.Joins
set_option linter.unusedVariables false
set_option linter.unusedSimpArgs false
set_option maxRecDepth 4000
theorem box_keep {w wo W W' : World} {x y : Int} (h : Below w.heap.size w W ∧ wo.heap.size < W.heap.size ∧ W.cell? ⟨wo.heap.size, 0, none⟩ = some (.int .i64 x) ∧ W.cell? ⟨wo.heap.size, 1, none⟩ = some (.int .i64 y)) (hb : Below W.heap.size W W') :
    Below w.heap.size w W' ∧ wo.heap.size < W'.heap.size ∧ W'.cell? ⟨wo.heap.size, 0, none⟩ = some (.int .i64 x) ∧ W'.cell? ⟨wo.heap.size, 1, none⟩ = some (.int .i64 y) := by
  obtain ⟨h1, h2, h3, h4⟩ := h
  have hc := (bcell hb).1
  have hz := hb.size
  exact ⟨h1.trans (hb.mono h1.size), by omega, by rw [hc _ _ h2, h3], by rw [hc _ _ h2, h4]⟩
set_option maxHeartbeats 2000000 in
theorem pgRoundW_any (A : Option Addr) (c : Nat) (l : List (Int × Int)) (w : World) (h3 : 1 ≤ l.length) (hn : l.length ≤ 60) (hp : ∀ i, i < l.length → isPg (vx l i) = true) (hR : Rd w w.heap.size A l) :
    Calls Try.prog 59 #[.slice A l.length c] w fun e w' => e = .returned (.int .i64 (onN l)) ∧ Below w.heap.size w w' := by
  obtain ⟨b, off, rfl, hb, HC⟩ := pts_of (by omega) hR
  have ZP := Lib.hid (fun i => pgs_sz hp i (by omega))
  have HB := Lib.hid (fun k => rn_bd hp (by omega) k)
  have HS : Hid (∀ k, Rn l (k + 1) = Rn l k + stepN (vx l k).1 (vx l k).2 (vx l (k + 1)).1 (vx l (k + 1)).2) := Lib.hid (fun k => rfl)
  have H0 : Hid (Rn l 0 = 0) := Lib.hid rfl
  unfold onN
  clear hp hR
  generalize hN : l.length = n at *
  have HN := Lib.hid hN
  clear hN
  go_enter Try.func59, Try.ntmps59
  go_wp2_with fail
  go_loopg [3, 8] n (fun g s i wr => ∃ k : Nat, k ≤ n ∧ g = n - k ∧ i = .int .i64 k ∧ s = .int .i64 (Rn l k) ∧ Below w.heap.size w wr)
  case atStart => exact ⟨0, by omega, by omega, rfl, by rw [H0.out], Below.refl _ _⟩
  case round =>
    obtain ⟨k, hk, hg, rfl, rfl, hB⟩ := hrel
    rename World => wo
    have HGK := Lib.hid hg
    clear hg
    by_cases hlt : k < n
    · have m2 : (k + 1) % n < n := Nat.mod_lt _ (by omega)
      have T := Lib.hid (fun W => (show Calls Try.prog 99 #[.agg #[.int .i64 (vx l k).1, .int .i64 (vx l k).2], .agg #[.int .i64 (vx l ((k + 1) % n)).1, .int .i64 (vx l ((k + 1) % n)).2]] W fun e w' => e = .returned (.int .i64 (stepN (vx l k).1 (vx l k).2 (vx l (k + 1)).1 (vx l (k + 1)).2)) ∧ Below W.heap.size W w' from by
        rw [← HN.out, vx_per]; exact pgStep_any _ _ _ _ W (ZP.out _) (ZP.out _)))
      have e0 := HS.out k
      obtain ⟨b1, b2⟩ := HB.out (k + 1)
      rw [e0] at b1 b2
      have E0 := Lib.hid e0
      clear e0
      generalize stepN (vx l k).1 (vx l k).2 (vx l (k + 1)).1 (vx l (k + 1)).2 = t at *
      generalize hs : Rn l k = s at *
      have HSS := Lib.hid hs
      clear hs
      have hq := HC.out wo hB k hlt
      have hzB := hB.size
      have hb1 := Below.alloc hB hzB (.cells #[.int .i64 (vx l k).1, .int .i64 (vx l k).2] 42)
      have b4 : IntKind.i64.wrap (s + t) = s + t := IntWalk.i64_in _ (by omega)
      have HB4 := Lib.hid b4
      clear b4
      go_wp2_with fail
      have b4 := HB4.out
      have e1 : IntKind.i64.wrap ((k : Int) + 1) = (k : Int) + 1 := IntWalk.i64_in _ (by omega)
      have e2 : ¬ n = 0 := by omega
      have e3 : (0 : Int) ≤ ((k : Int) + 1) % (n : Int) := Int.emod_nonneg _ (by omega)
      have e4 : ((k : Int) + 1) % (n : Int) < (n : Int) := Int.emod_lt_of_pos _ (by omega)
      have e5 : ((k : Int) + 1).tmod (n : Int) = ((k : Int) + 1) % (n : Int) := Int.tmod_eq_emod_of_nonneg (by omega)
      have e6 : (((k : Int) + 1) % (n : Int)).toNat = (k + 1) % n := by rw [show ((k : Int) + 1) % (n : Int) = (((k + 1) % n : Nat) : Int) by simp]; exact Int.toNat_natCast _
      refine wp_region_B (fun W => Below w.heap.size w W ∧ wo.heap.size < W.heap.size ∧ W.cell? ⟨wo.heap.size, 0, none⟩ = some (.int .i64 (vx l k).1) ∧ W.cell? ⟨wo.heap.size, 1, none⟩ = some (.int .i64 (vx l k).2)) (by kernel_rfl) ⟨hb1.drew, by simp, by go_simp, by go_simp⟩ ?_
      clear hq hb1
      first | refine wpB_skip 0 rfl (by kernel_rfl) (by kernel_rfl) (by kernel_rfl) (by rfl) ?_ | (refine wpB_text 0 (v := ?_) rfl (by kernel_rfl) (by kernel_rfl) (by kernel_rfl) (by rfl) (fun W hW => ?_) ?_; rotate_left; (obtain ⟨k1, k2, k3, k4⟩ := hW; have c1 := HC.out W k1 ((k + 1) % n) m2; go_simp; refine comes_v ?_; exact ⟨k1, k2, k3, k4⟩))
      (try simp only [Act.put, List.setIfInBounds_toArray, List.set_cons_zero, List.set_cons_succ])
      first | refine wpB_skip 1 rfl (by kernel_rfl) (by kernel_rfl) (by kernel_rfl) (by rfl) ?_ | (refine wpB_text 1 (v := ?_) rfl (by kernel_rfl) (by kernel_rfl) (by kernel_rfl) (by rfl) (fun W hW => ?_) ?_; rotate_left; (obtain ⟨k1, k2, k3, k4⟩ := hW; have c1 := HC.out W k1 ((k + 1) % n) m2; go_simp; refine comes_v ?_; exact ⟨k1, k2, k3, k4⟩))
      (try simp only [Act.put, List.setIfInBounds_toArray, List.set_cons_zero, List.set_cons_succ])
      first | refine wpB_skip 2 rfl (by kernel_rfl) (by kernel_rfl) (by kernel_rfl) (by rfl) ?_ | (refine wpB_text 2 (v := ?_) rfl (by kernel_rfl) (by kernel_rfl) (by kernel_rfl) (by rfl) (fun W hW => ?_) ?_; rotate_left; (obtain ⟨k1, k2, k3, k4⟩ := hW; have c1 := HC.out W k1 ((k + 1) % n) m2; go_simp; refine comes_v ?_; exact ⟨k1, k2, k3, k4⟩))
      (try simp only [Act.put, List.setIfInBounds_toArray, List.set_cons_zero, List.set_cons_succ])
      first | refine wpB_skip 3 rfl (by kernel_rfl) (by kernel_rfl) (by kernel_rfl) (by rfl) ?_ | (refine wpB_text 3 (v := ?_) rfl (by kernel_rfl) (by kernel_rfl) (by kernel_rfl) (by rfl) (fun W hW => ?_) ?_; rotate_left; (obtain ⟨k1, k2, k3, k4⟩ := hW; have c1 := HC.out W k1 ((k + 1) % n) m2; go_simp; refine comes_v ?_; exact ⟨k1, k2, k3, k4⟩))
      (try simp only [Act.put, List.setIfInBounds_toArray, List.set_cons_zero, List.set_cons_succ])
      first | refine wpB_skip 4 rfl (by kernel_rfl) (by kernel_rfl) (by kernel_rfl) (by rfl) ?_ | (refine wpB_text 4 (v := ?_) rfl (by kernel_rfl) (by kernel_rfl) (by kernel_rfl) (by rfl) (fun W hW => ?_) ?_; rotate_left; (obtain ⟨k1, k2, k3, k4⟩ := hW; have c1 := HC.out W k1 ((k + 1) % n) m2; go_simp; refine comes_v ?_; exact ⟨k1, k2, k3, k4⟩))
      (try simp only [Act.put, List.setIfInBounds_toArray, List.set_cons_zero, List.set_cons_succ])
      first | refine wpB_skip 5 rfl (by kernel_rfl) (by kernel_rfl) (by kernel_rfl) (by rfl) ?_ | (refine wpB_text 5 (v := ?_) rfl (by kernel_rfl) (by kernel_rfl) (by kernel_rfl) (by rfl) (fun W hW => ?_) ?_; rotate_left; (obtain ⟨k1, k2, k3, k4⟩ := hW; have c1 := HC.out W k1 ((k + 1) % n) m2; go_simp; refine comes_v ?_; exact ⟨k1, k2, k3, k4⟩))
      (try simp only [Act.put, List.setIfInBounds_toArray, List.set_cons_zero, List.set_cons_succ])
      first | refine wpB_skip 6 rfl (by kernel_rfl) (by kernel_rfl) (by kernel_rfl) (by rfl) ?_ | (refine wpB_text 6 (v := ?_) rfl (by kernel_rfl) (by kernel_rfl) (by kernel_rfl) (by rfl) (fun W hW => ?_) ?_; rotate_left; (obtain ⟨k1, k2, k3, k4⟩ := hW; have c1 := HC.out W k1 ((k + 1) % n) m2; go_simp; refine comes_v ?_; exact ⟨k1, k2, k3, k4⟩))
      (try simp only [Act.put, List.setIfInBounds_toArray, List.set_cons_zero, List.set_cons_succ])
      first | refine wpB_skip 7 rfl (by kernel_rfl) (by kernel_rfl) (by kernel_rfl) (by rfl) ?_ | (refine wpB_text 7 (v := ?_) rfl (by kernel_rfl) (by kernel_rfl) (by kernel_rfl) (by rfl) (fun W hW => ?_) ?_; rotate_left; (obtain ⟨k1, k2, k3, k4⟩ := hW; have c1 := HC.out W k1 ((k + 1) % n) m2; go_simp; refine comes_v ?_; exact ⟨k1, k2, k3, k4⟩))
      (try simp only [Act.put, List.setIfInBounds_toArray, List.set_cons_zero, List.set_cons_succ])
      first | refine wpB_skip 8 rfl (by kernel_rfl) (by kernel_rfl) (by kernel_rfl) (by rfl) ?_ | (refine wpB_text 8 (v := ?_) rfl (by kernel_rfl) (by kernel_rfl) (by kernel_rfl) (by rfl) (fun W hW => ?_) ?_; rotate_left; (obtain ⟨k1, k2, k3, k4⟩ := hW; have c1 := HC.out W k1 ((k + 1) % n) m2; go_simp; refine comes_v ?_; exact ⟨k1, k2, k3, k4⟩))
      (try simp only [Act.put, List.setIfInBounds_toArray, List.set_cons_zero, List.set_cons_succ])
      first | refine wpB_skip 9 rfl (by kernel_rfl) (by kernel_rfl) (by kernel_rfl) (by rfl) ?_ | (refine wpB_text 9 (v := ?_) rfl (by kernel_rfl) (by kernel_rfl) (by kernel_rfl) (by rfl) (fun W hW => ?_) ?_; rotate_left; (obtain ⟨k1, k2, k3, k4⟩ := hW; have c1 := HC.out W k1 ((k + 1) % n) m2; go_simp; refine comes_v ?_; exact ⟨k1, k2, k3, k4⟩))
      (try simp only [Act.put, List.setIfInBounds_toArray, List.set_cons_zero, List.set_cons_succ])
      first | refine wpB_skip 10 rfl (by kernel_rfl) (by kernel_rfl) (by kernel_rfl) (by rfl) ?_ | (refine wpB_text 10 (v := .int .i64 t) rfl (by kernel_rfl) (by kernel_rfl) (by kernel_rfl) (by rfl) (fun W hW => ?_) ?_; (obtain ⟨k1, k2, k3, k4⟩ := hW; have c1 := HC.out W k1 ((k + 1) % n) m2; go_simp; exact comes_c ( T.out _) (fun wn hbn => box_keep ⟨k1, k2, k3, k4⟩ hbn)))
      (try simp only [Act.put, List.setIfInBounds_toArray, List.set_cons_zero, List.set_cons_succ])
      first | refine wpB_skip 11 rfl (by kernel_rfl) (by kernel_rfl) (by kernel_rfl) (by rfl) ?_ | (refine wpB_text 11 (v := ?_) rfl (by kernel_rfl) (by kernel_rfl) (by kernel_rfl) (by rfl) (fun W hW => ?_) ?_; rotate_left; (obtain ⟨k1, k2, k3, k4⟩ := hW; have c1 := HC.out W k1 ((k + 1) % n) m2; go_simp; refine comes_v ?_; exact ⟨k1, k2, k3, k4⟩))
      (try simp only [Act.put, List.setIfInBounds_toArray, List.set_cons_zero, List.set_cons_succ])
      first | refine wpB_skip 12 rfl (by kernel_rfl) (by kernel_rfl) (by kernel_rfl) (by rfl) ?_ | (refine wpB_text 12 (v := ?_) rfl (by kernel_rfl) (by kernel_rfl) (by kernel_rfl) (by rfl) (fun W hW => ?_) ?_; rotate_left; (obtain ⟨k1, k2, k3, k4⟩ := hW; have c1 := HC.out W k1 ((k + 1) % n) m2; go_simp; refine comes_v ?_; exact ⟨k1, k2, k3, k4⟩))
      (try simp only [Act.put, List.setIfInBounds_toArray, List.set_cons_zero, List.set_cons_succ])
      refine wpB_done (by kernel_rfl) ?_ _
      intro W hW; obtain ⟨k1, k2, k3, k4⟩ := hW
      clear e1 e2 e3 e4 e5 e6 b4
      go_wp2_with fail
      go_roundg (n - (k + 1))
      case measure => have := HGK.out; omega
      case rel => exact ⟨k + 1, by omega, rfl, by go_num, by rw [E0.out], k1⟩
    · have hkn : n = k := by omega
      subst hkn
      go_wp2_with fail
      go_ret
      exact ⟨rfl, hB⟩
theorem pgRound_any (A : Option Addr) (c : Nat) (l : List (Int × Int)) (w : World) (h3 : 1 ≤ l.length) (hn : l.length ≤ 10) (hp : ∀ i, i < l.length → isPg (vx l i) = true) (hR : Rd w w.heap.size A l) :
    Calls Try.prog 59 #[.slice A l.length c] w fun e w' => e = .returned (.int .i64 (onN l)) ∧ Below w.heap.size w w' := pgRoundW_any A c l w h3 (by omega) hp hR
end Go.Proofs.Ytieimijkkjhegaa
/- contracts: points inside, both sums together -/
namespace Go.Proofs.Ytieimijkkjhegaa
open Go.ChangeShapes Go.WideShapes Go.ChangeAt Go.RowKit Go.Joins
set_option linter.unusedVariables false
set_option linter.unusedSimpArgs false
set_option maxRecDepth 4000
theorem pgInside_any (A : Option Addr) (c : Nat) (l : List (Int × Int)) (w : World) (hg : Good l) (hR : Rd w w.heap.size A l) :
    Calls Try.prog 78 #[.slice A l.length c] w fun e w' => e = .returned (.int .i64 (insN l)) ∧ Below w.heap.size w w' := by
  have K1 := Lib.hid (pgArea_any A c l w hg.few.1 hg.few.2 hg.pegs hR)
  have K2 := Lib.hid (fun W (hb : Below w.heap.size w W) => pgRound_any A c l W (by have := hg.few; omega) hg.few.2 hg.pegs (rd_more (rd_below hR hb (Nat.le_refl _)) hb.size))
  obtain ⟨a1, a2⟩ := area_bd hg
  obtain ⟨o1, o2⟩ := on_bd hg
  have K3 := Lib.hid (fun W => l1Abs_any (areaN l) W (by omega) (by omega))
  unfold insN
  have nb : (0 : Int) ≤ ((areaN l).natAbs : Int) ∧ ((areaN l).natAbs : Int) ≤ 40000 := by omega
  obtain ⟨nb1, nb2⟩ := nb
  generalize ((areaN l).natAbs : Int) = m at *
  generalize areaN l = v at *
  generalize onN l = o at *
  clear hg hR
  go_enter Try.func78, Try.ntmps78
  go_wp2_with fail
  refine K1.out.mono ?_; rintro e w1 ⟨rfl, hb1⟩
  go_wp2_with fail
  refine (K3.out _).mono ?_; rintro e _ ⟨rfl, rfl⟩
  go_wp2_with fail
  refine (K2.out w1 hb1).mono ?_; rintro e w2 ⟨rfl, hb2⟩
  have B2 := hb1.trans (hb2.mono hb1.size)
  go_wp2_with fail
  go_ret
  exact ⟨rfl, B2⟩
end Go.Proofs.Ytieimijkkjhegaa
/- contract: a corner's part of the area -/
namespace Go.Proofs.Ytieimijkkjhegaa
open Go.ChangeShapes Go.WideShapes Go.ChangeAt Go.RowKit Go.Joins
set_option linter.unusedVariables false
set_option linter.unusedSimpArgs false
set_option maxRecDepth 4000
theorem areaPart_any (p q : Int × Int) (b1 b2 : Int) (w : World) (hp : isPg p = true) (hq : isPg q = true) :
    Calls Try.prog 111 #[.agg #[.int .i64 p.1, .int .i64 p.2, .int .i64 b1, .int .i64 b2, .int .i64 q.1, .int .i64 q.2]] w fun e w' => e = .returned (.int .i64 (cr p q)) ∧ Below w.heap.size w w' := by
  unfold isPg isPegB at hp hq
  simp only [Bool.and_eq_true, decide_eq_true_eq] at hp hq
  have h1 := mul_bd (x := p.1) (y := q.2) (m := 40) (n := 40) (by omega) (by omega) (by omega) (by omega)
  have h2 := mul_bd (x := q.1) (y := p.2) (m := 40) (n := 40) (by omega) (by omega) (by omega) (by omega)
  obtain ⟨p1, p2⟩ := p
  obtain ⟨q1, q2⟩ := q
  simp only at h1 h2
  clear hp hq
  go_enter Try.func111, Try.ntmps111
  go_wp2_with fail
  go_ret
  exact ⟨ret_int (by unfold cr; rfl), (by repeat (first | exact Below.refl _ _ | assumption | apply Below.drew | refine Below.alloc ?_ (by simp <;> omega) _))⟩
end Go.Proofs.Ytieimijkkjhegaa
/- contracts: the program's sum of areas -/
namespace Go.Proofs.Ytieimijkkjhegaa
open Go.ChangeShapes Go.WideShapes Go.ChangeAt Go.RowKit Go.Joins
set_option linter.unusedVariables false
set_option linter.unusedSimpArgs false
set_option maxRecDepth 4000
theorem sumTwiceArea_any (A : Option Addr) (c : Nat) (l : List (Int × Int)) (w : World) (hg : Good l) (hR : Rd w w.heap.size A l) :
    Calls Try.prog 100 #[.slice A l.length c, .func (.func 111) #[] #[]] w fun e w' => e = .returned (.int .i64 (areaN l)) ∧ Below w.heap.size w w' :=
  sumAround_any A c l w 111 (fun i => cr (vx l i) (vx l (i + 1))) (good_pos hg) hg.few.2 hR Try.call111
    (fun i _ => by have := cr_bd (vx_pg hg.pegs (good_pos hg) i) (vx_pg hg.pegs (good_pos hg) (i + 1)); omega)
    (fun i _ W => areaPart_any _ _ _ _ W (vx_pg hg.pegs (good_pos hg) i) (vx_pg hg.pegs (good_pos hg) (i + 1)))
end Go.Proofs.Ytieimijkkjhegaa
/- contracts: the program's PegsInside -/
namespace Go.Proofs.Ytieimijkkjhegaa
open Go.ChangeShapes Go.WideShapes Go.ChangeAt Go.RowKit Go.Joins
set_option linter.unusedVariables false
set_option linter.unusedSimpArgs false
set_option maxRecDepth 4000
theorem implPegsInside_any (A : Option Addr) (c : Nat) (l : List (Int × Int)) (w : World) (hn : l.length ≤ 1048576) (hR : Rd w w.heap.size A l) :
    Calls Try.prog 75 #[.slice A l.length c] w fun e w' => e = .returned (.tuple #[.int .i64 (gi (goodB l) (insN l)), .bool (goodB l)]) ∧ Below w.heap.size w w' := by
  have K := Lib.hid (implIsPolygon_any A c l w hn hR)
  by_cases hg : Good l
  · have hgt := goodB_true hg
    rw [hgt] at K ⊢
    have K2 := Lib.hid (fun W (hb : Below w.heap.size w W) => sumTwiceArea_any A c l W hg (rd_more (rd_below hR hb (Nat.le_refl _)) hb.size))
    have K3 := Lib.hid (fun W (hb : Below w.heap.size w W) => sumPegsOn_any A c l W hg (rd_more (rd_below hR hb (Nat.le_refl _)) hb.size))
    obtain ⟨a1, a2⟩ := area_bd hg
    obtain ⟨o1, o2⟩ := on_bd hg
    rw [gi_true]
    unfold insN
    generalize areaN l = v at *
    generalize onN l = o at *
    clear hgt hg hR
    go_enter Try.func75, Try.ntmps75
    go_wp2_with fail
    refine K.out.mono ?_; rintro e w1 ⟨rfl, hb1⟩
    go_wp2_with fail
    refine (K2.out w1 hb1).mono ?_; rintro e w2 ⟨rfl, hb2⟩
    have B2 := hb1.trans (hb2.mono hb1.size)
    go_wp2_with fail
    refine (K3.out w2 B2).mono ?_; rintro e w3 ⟨rfl, hb3⟩
    have B3 := B2.trans (hb3.mono B2.size)
    go_wp2_with fail
    all_goals
      go_ret2
      first | exact ⟨ret_tup (by rw [show (v.natAbs : Int) = -v by omega]), B3⟩ | exact ⟨ret_tup (by rw [show (v.natAbs : Int) = v by omega]), B3⟩
  · have hgf := goodB_false hg
    rw [hgf] at K ⊢
    rw [gi_false]
    clear hgf hg hR
    go_enter Try.func75, Try.ntmps75
    go_wp2_with fail
    refine K.out.mono ?_; rintro e w1 ⟨rfl, hb1⟩
    go_wp2_with fail
    go_ret2
    exact ⟨rfl, hb1⟩
end Go.Proofs.Ytieimijkkjhegaa
/- plain: the told number is that of the list; contract: ListInside, the program -/
namespace Go.Proofs.Ytieimijkkjhegaa
open Go.ChangeShapes Go.WideShapes Go.ChangeAt Go.RowKit Go.Joins
set_option linter.unusedVariables false
set_option linter.unusedSimpArgs false
set_option maxRecDepth 4000
noncomputable def one1 (l : List (Int × Int)) (p : Int × Int) : Int := @ite _ (whN l p = 1) (Int.instDecidableEq _ _) 1 0
theorem colR_cnt (l : List (Int × Int)) (x y0 : Int) (m : Nat) : ((colR l x y0 m).length : Int) = MJ.sm (fun j => one1 l (x, y0 + j)) m := by
  induction m with
  | zero => rfl
  | succ m ih =>
    have e : colR l x y0 (m + 1) = colR l x y0 m ++ (if whN l (x, y0 + m) = 1 then [(x, y0 + m)] else []) := rfl
    have e2 : MJ.sm (fun j => one1 l (x, y0 + j)) (m + 1) = MJ.sm (fun j => one1 l (x, y0 + j)) m + one1 l (x, y0 + m) := rfl
    rw [e, e2, List.length_append, ← ih]
    unfold one1
    split <;> simp
theorem gridR_cnt (l : List (Int × Int)) (x0 y0 : Int) (r m : Nat) : ((gridR l x0 y0 r m).length : Int) = MJ.sm (fun i => MJ.sm (fun j => one1 l (x0 + i, y0 + j)) r) m := by
  induction m with
  | zero => rfl
  | succ m ih =>
    have e : gridR l x0 y0 r (m + 1) = gridR l x0 y0 r m ++ colR l (x0 + m) y0 r := rfl
    have e2 : MJ.sm (fun i => MJ.sm (fun j => one1 l (x0 + i, y0 + j)) r) (m + 1) = MJ.sm (fun i => MJ.sm (fun j => one1 l (x0 + i, y0 + j)) r) m + MJ.sm (fun j => one1 l (x0 + m, y0 + j)) r := rfl
    rw [e, e2, List.length_append, ← ih, ← colR_cnt]
    push_cast
    rfl
theorem one1_is (l : List (Int × Int)) (p : Int × Int) : one1 l p = MJ.inC (vx l) l.length p := by
  unfold one1
  by_cases hb : MJ.Bd (vx l) p
  · rw [whN_on hb, if_neg (by omega), MJ.inC_0 (.inl hb)]
  · rw [whN_off hb]
    by_cases hw : MJ.WN (vx l) l.length p = 0
    · rw [if_pos hw, if_neg (by omega), MJ.inC_0 (.inr hw)]
    · rw [if_neg hw, if_pos rfl, MJ.inC_1 hb hw]
/-- PICK: as many as told -/
theorem insL_cnt {l : List (Int × Int)} (hg : Good l) : insN l = (insL l).length := by
  have p := MJ.pick_in (good_poly hg) (good_box hg)
  rw [← area_is, ← on_sum] at p
  have e : ((insL l).length : Int) = MJ.bs 40 (MJ.inC (vx l) l.length) := by
    unfold insL MJ.bs
    rw [gridR_cnt, MJ.sm_comm]
    refine MJ.sm_congr fun j _ => MJ.sm_congr fun i _ => ?_
    rw [one1_is]
    have : ((-40 : Int) + (i : Int), (-40 : Int) + (j : Int)) = MJ.bx 40 i j := by
      unfold MJ.bx
      exact Prod.ext (by simp only []; omega) (by simp only []; omega)
    rw [this]
  rw [← e] at p
  unfold insN
  rw [Int.tdiv_eq_ediv_of_nonneg (by omega)]
  omega
/-- what has been found so far is not more than all -/
theorem found_le (l : List (Int × Int)) (x0 y0 : Int) {nr nc i j : Nat} (hi : i < nc) (hj : j ≤ nr) : (gridR l x0 y0 nr i ++ colR l (x0 + i) y0 j).length ≤ (gridR l x0 y0 nr nc).length := by
  obtain ⟨a, rfl⟩ : ∃ a, nc = i + 1 + a := ⟨nc - (i + 1), by omega⟩
  obtain ⟨b, rfl⟩ : ∃ b, nr = j + b := ⟨nr - j, by omega⟩
  rw [gridR_app]
  have e : gridR l x0 y0 (j + b) (i + 1) = gridR l x0 y0 (j + b) i ++ colR l (x0 + i) y0 (j + b) := rfl
  rw [e, colR_app]
  simp only [List.length_append]
  omega
theorem rowL_made (w : World) (base n : Nat) (hb : base ≤ w.heap.size) (hn : n ≤ 100000) :
    RowL (w.alloc (.cells (madeCells #[.int .i64 0, .int .i64 0] (n * 2)) 42)) base (.slice (some ⟨w.heap.size, 0, none⟩) 0 n) [] :=
  World.ownsRow_made (base := base) (e := 42) (size := 2) w _ n hb (by unfold maxLen; omega) (size_madeCells _ _)
/-- two boxes of points, not to be written -/
structure Bxs (W : World) (g h : Nat) (p q : Int × Int) : Prop where
  zg : g < W.heap.size
  zh : h < W.heap.size
  g0 : W.cell? ⟨g, 0, none⟩ = some (.int .i64 p.1)
  g1 : W.cell? ⟨g, 1, none⟩ = some (.int .i64 p.2)
  h0 : W.cell? ⟨h, 0, none⟩ = some (.int .i64 q.1)
  h1 : W.cell? ⟨h, 1, none⟩ = some (.int .i64 q.2)
theorem bxs_below {W W' : World} {g h : Nat} {p q : Int × Int} (b : Bxs W g h p q) (hb : Below W.heap.size W W') : Bxs W' g h p q := by
  have hc := (bcell hb).1
  have hz := hb.size
  have z1 := b.zg
  have z2 := b.zh
  exact ⟨by omega, by omega, (hc _ _ z1).trans b.g0, (hc _ _ z1).trans b.g1, (hc _ _ z2).trans b.h0, (hc _ _ z2).trans b.h1⟩
theorem bxs_grown {W W' : World} {g h r : Nat} {p q : Int × Int} (b : Bxs W g h p q) (hg : W.grownBy W' (some r)) (h1 : g ≠ r) (h2 : h ≠ r) : Bxs W' g h p q := by
  have z1 := b.zg
  have z2 := b.zh
  have c1 : ∀ o, W'.cell? ⟨g, o, none⟩ = W.cell? ⟨g, o, none⟩ := fun o => World.cell?_of_block (w := W) (hg.block g z1 (fun e => h1 (by injection e)))
  have c2 : ∀ o, W'.cell? ⟨h, o, none⟩ = W.cell? ⟨h, o, none⟩ := fun o => World.cell?_of_block (w := W) (hg.block h z2 (fun e => h2 (by injection e)))
  have hz := hg.size
  exact ⟨by omega, by omega, (c1 _).trans b.g0, (c1 _).trans b.g1, (c2 _).trans b.h0, (c2 _).trans b.h1⟩
theorem rowL_fit {W' : World} {base r cap : Nat} {m : List (Int × Int)} {x y : Int} (ho : W'.ownsRow base 42 2 (.slice (some ⟨r, 0, none⟩) (m.length + 1) cap) (m.length + 1) (flat m ++ [.int .i64 x, .int .i64 y])) :
    RowL W' base (.slice (some ⟨r, 0, none⟩) (m ++ [(x, y)]).length cap) (m ++ [(x, y)]) := by
  unfold RowL; rw [flat_snoc, List.length_append]; exact ho
end Go.Proofs.Ytieimijkkjhegaa
/- contract: the closure that keeps the points inside -/
namespace Go.Proofs.Ytieimijkkjhegaa
open Go.ChangeShapes Go.WideShapes Go.ChangeAt Go.RowKit Go.Joins
set_option linter.unusedVariables false
set_option linter.unusedSimpArgs false
set_option maxRecDepth 4000
/-- a row of points that is kept in a box -/
structure Vis (w0 W : World) (r v cn : Nat) (m : List (Int × Int)) : Prop where
  below : Below w0.heap.size w0 W
  row : RowL W w0.heap.size (.slice (some ⟨r, 0, none⟩) m.length cn) m
  cell : W.cell? ⟨v, 0, none⟩ = some (.slice (some ⟨r, 0, none⟩) m.length cn)
  fz : W.frozen? ⟨v, 0, none⟩ = false
  vlo : w0.heap.size ≤ v
  vup : v < W.heap.size
  rlo : w0.heap.size ≤ r
  ne : v ≠ r
theorem vis_below {w0 W W' : World} {r v cn : Nat} {m : List (Int × Int)} (h : Vis w0 W r v cn m) (hb : Below W.heap.size W W') : Vis w0 W' r v cn m := by
  obtain ⟨h1, h2, h3, h4, h5, h6, h7, h8⟩ := h
  have hc := (bcell hb).1
  have hf := (bcell hb).2
  have hz := hb.size
  exact ⟨h1.trans (hb.mono h1.size), rowL_below h2 hb (Nat.le_refl _), (hc _ _ h6).trans h3, (hf _ _ h6).trans h4, h5, by omega, h7, h8⟩
theorem bxs_set {W : World} {g h : Nat} {p q : Int × Int} {a : Addr} (b : Bxs W g h p q) (u : Value) (h1 : a.block ≠ g) (h2 : a.block ≠ h) : Bxs (W.setCell a u) g h p q := by
  have c : ∀ x o, a.block ≠ x → (W.setCell a u).cell? ⟨x, o, none⟩ = W.cell? ⟨x, o, none⟩ := fun x o hx => World.cell?_setCell_other _ _ _ _ (fun e => hx (by rw [e]))
  have z1 := b.zg
  have z2 := b.zh
  exact ⟨by simpa [World.setCell] using z1, by simpa [World.setCell] using z2, (c _ _ h1).trans b.g0, (c _ _ h1).trans b.g1, (c _ _ h2).trans b.h0, (c _ _ h2).trans b.h1⟩
theorem vis_put {w0 W W' : World} {r v cn : Nat} {m : List (Int × Int)} {x y : Int} (h : Vis w0 W r v cn m) (hown : W'.ownsRow w0.heap.size 42 2 (.slice (some ⟨r, 0, none⟩) (m.length + 1) cn) (m.length + 1) (flat m ++ [.int .i64 x, .int .i64 y])) (hgr : W.grownBy W' (some r)) :
    (W'.cell? ⟨v, 0, none⟩ = some (.slice (some ⟨r, 0, none⟩) m.length cn) ∧ W'.frozen? ⟨v, 0, none⟩ = false ∧ v < W'.heap.size) ∧ Vis w0 (W'.setCell ⟨v, 0, none⟩ (.slice (some ⟨r, 0, none⟩) (m.length + 1) cn)) r v cn (m ++ [(x, y)]) := by
  obtain ⟨h1, h2, h3, h4, h5, h6, h7, h8⟩ := h
  have hbl := hgr.block v h6 (fun e => h8 (by injection e with e))
  have c1 : W'.cell? ⟨v, 0, none⟩ = some (.slice (some ⟨r, 0, none⟩) m.length cn) := (World.cell?_of_block (w := W) hbl).trans h3
  have f1 : W'.frozen? ⟨v, 0, none⟩ = false := (World.frozen?_of_block (w := W) hbl).trans h4
  have z1 : v < W'.heap.size := Nat.lt_of_lt_of_le h6 hgr.size
  refine ⟨⟨c1, f1, z1⟩, ?_⟩
  have B1 : Below w0.heap.size w0 W' := h1.grown hgr h1.size (fun k e => by cases e; exact h7)
  refine ⟨B1.setCell h5 _, ?_, ?_, by rw [World.frozen?_setCell]; exact f1, h5, by simpa [World.setCell] using z1, h7, h8⟩
  · exact ownsRow_setCell_other (rowL_fit hown) (by intro e; injection e with e; exact h8 e.symm) _
  · rw [List.length_append]
    exact World.cell?_setCell_same _ _ _ c1
set_option maxHeartbeats 1000000 in
theorem visit_any (w0 w : World) (r v cn : Nat) (m : List (Int × Int)) (x y t : Int) (hV : Vis w0 w r v cn m) (hfit : t = 1 → m.length + 1 ≤ cn) :
    Calls Try.prog 77 #[.agg #[.int .i64 x, .int .i64 y], .int .i64 t, .pointer (some ⟨v, 0, none⟩)] w fun e w' => e = .returned (.tuple #[]) ∧
      Vis w0 w' r v cn (if t = 1 then m ++ [(x, y)] else m) ∧ ∀ g p q, g ≠ r → g + 1 ≠ r → g ≠ v → g + 1 ≠ v → Bxs w g (g + 1) p q → Bxs w' g (g + 1) p q := by
  obtain ⟨i0, hi0, hz0, hz1, hz2⟩ := info_parts peg_info
  have HI := Lib.hid (And.intro hi0 (And.intro hz0 (And.intro hz1 hz2)))
  clear hi0 hz0 hz1 hz2
  have HV := Lib.hid hV
  by_cases ht : t = 1
  · subst ht
    have hf := hfit rfl
    rw [if_pos rfl]
    clear hV hfit
    have hc := HV.out.cell
    have hv := HV.out.vup
    have hz := HV.out.below.size
    have hvne := HV.out.ne
    go_enter Try.func77, Try.ntmps77
    go_wp2_with (at_builtin; go_loud (refine wpList_append_fits _ rfl (.tmp 7) (.tmp 9) 26 rfl w0.heap.size 42 i0 2 Try.underlying26 HI.out.1 HI.out.2.2.1 r m.length cn (flat m) rfl (rowL_alloc (rowL_alloc HV.out.row _) _) ⟨w.heap.size + 1, 0, none⟩ 1 1 [.int .i64 x, .int .i64 y] rfl rfl (two_cells (by go_simp) (by go_simp)) (two_one _ _) hf ?_))
    intro w6 hown hgr
    have BA : Below w.heap.size w ((w.alloc (.cells #[.int .i64 x, .int .i64 y] 42)).alloc (.cells #[.int .i64 x, .int .i64 y] 42)) := Below.alloc (Below.alloc (Below.refl _ _) (Nat.le_refl _) _) (by simp) _
    have VA := vis_below HV.out BA
    have XA : Hid (∀ g p q, g ≠ r → g + 1 ≠ r → g ≠ v → g + 1 ≠ v → Bxs w g (g + 1) p q → Bxs (w6.setCell ⟨v, 0, none⟩ (.slice (some ⟨r, 0, none⟩) (m.length + 1) cn)) g (g + 1) p q) := Lib.hid (fun g p q n1 n2 n3 n4 h =>
      bxs_set (bxs_grown (bxs_below h BA) hgr n1 n2) _ (fun e => n3 e.symm) (fun e => n4 e.symm))
    obtain ⟨⟨d1, d2, d3⟩, VP⟩ := vis_put VA hown hgr
    have HP := Lib.hid VP
    clear VP VA hown hgr BA hc hv
    go_wp2_with fail
    go_end0
    exact ⟨rfl, HP.out, XA.out⟩
  · rw [if_neg ht]
    clear hV hfit
    go_enter Try.func77, Try.ntmps77
    go_wp2_with fail
    go_end0
    exact ⟨rfl, vis_below HV.out (Below.alloc (Below.refl _ _) (Nat.le_refl _) _), fun g p q n1 n2 n3 n4 h => bxs_below h (Below.alloc (Below.refl _ _) (Nat.le_refl _) _)⟩
end Go.Proofs.Ytieimijkkjhegaa
/- contract: where a point is, the model -/
namespace Go.Proofs.Ytieimijkkjhegaa
open Go.ChangeShapes Go.WideShapes Go.ChangeAt Go.RowKit Go.Joins
set_option linter.unusedVariables false
set_option linter.unusedSimpArgs false
set_option maxRecDepth 4000
theorem frozen_drew (W : World) (a : Addr) : (W.drew).frozen? a = W.frozen? a := rfl
set_option maxHeartbeats 4000000 in
theorem pgWhere_any (A : Option Addr) (c : Nat) (l : List (Int × Int)) (p1 p2 : Int) (w : World) (hg : Good l) (hp : Sz p1 p2) (hR : Rd w w.heap.size A l) :
    Calls Try.prog 110 #[.slice A l.length c, .agg #[.int .i64 p1, .int .i64 p2]] w fun e w' => e = .returned (.int .i64 (whN l (p1, p2))) ∧ Below w.heap.size w w' := by
  have h3 := hg.few.1
  have hn := hg.few.2
  obtain ⟨b, off, rfl, hb, HC⟩ := pts_of (by omega) hR
  have ZP := Lib.hid (fun i => pgs_sz hg.pegs i (by omega))
  have HON : Hid (∀ k, onE l (p1, p2) k = true → whN l (p1, p2) = 0) := Lib.hid (fun k h => whN_on (onE_bd h))
  have HX : Hid ((∀ k, k < l.length → onE l (p1, p2) k = false) → whN l (p1, p2) = if xsN l (p1, p2) l.length % 2 = 1 then 1 else -1) := Lib.hid (whN_xs hg)
  have HZ : Hid (decide (xsN l (p1, p2) 0 % 2 = 1) = false) := Lib.hid rfl
  clear hg hR
  generalize whN l (p1, p2) = r at *
  generalize hN : l.length = n at *
  have HN := Lib.hid hN
  clear hN
  go_enter Try.func110, Try.ntmps110
  go_wp2_with fail
  obtain ⟨Wa, hWa⟩ : ∃ Wa, Wa = (w.alloc (.cells #[.int .i64 p1, .int .i64 p2] 42)) := ⟨_, rfl⟩
  rw [← hWa]
  have yWa0_0 : Wa.cell? ⟨w.heap.size, 0, none⟩ = some (.int .i64 p1) := by rw [hWa]; go_simp
  have yWa0_1 : Wa.cell? ⟨w.heap.size, 1, none⟩ = some (.int .i64 p2) := by rw [hWa]; go_simp
  have fWa0 : ∀ o, Wa.frozen? ⟨w.heap.size, o, none⟩ = false := by intro o; rw [hWa]; (repeat rw [frozen?_alloc_cells]); simp [World.frozen?]
  have zWa0 : w.heap.size < Wa.heap.size := by rw [hWa]; simp <;> omega
  have BWa : Below w.heap.size w Wa := by rw [hWa]; exact (Below.alloc (Below.refl _ _) (by simp <;> omega) _)
  have eWa : Hid (Wa.heap.size = w.heap.size + 1) := Lib.hid (by rw [hWa]; simp)
  clear hWa
  clear fWa0 eWa
  go_loopg [5, 13] n (fun gg s i wr => ∃ k : Nat, k ≤ n ∧ gg = n - k ∧ i = .int .i64 k ∧ s = .bool (decide (xsN l (p1, p2) k % 2 = 1)) ∧ (Below w.heap.size w wr ∧ w.heap.size < wr.heap.size ∧ wr.cell? ⟨w.heap.size, 0, none⟩ = some (.int .i64 p1) ∧ wr.cell? ⟨w.heap.size, 1, none⟩ = some (.int .i64 p2)) ∧ Hid (∀ j, j < k → onE l (p1, p2) j = false))
  case atStart => exact ⟨0, Nat.zero_le _, rfl, rfl, by rw [HZ.out], ⟨BWa, zWa0, yWa0_0, yWa0_1⟩, Lib.hid (fun j h => absurd h (Nat.not_lt_zero _))⟩
  case round =>
    clear BWa zWa0 yWa0_0 yWa0_1
    obtain ⟨k, hk, hgg, rfl, rfl, ⟨BO, zo, x0, x1⟩, hF⟩ := hrel
    rename World => wo
    have HGK := Lib.hid hgg
    clear hgg
    by_cases hlt : k < n
    · have m1 : (k + 1) % n < n := Nat.mod_lt _ (by omega)
      obtain ⟨a1, a2, ha⟩ : ∃ a1 a2, vx l k = (a1, a2) := ⟨_, _, rfl⟩
      obtain ⟨b1, b2, hbb⟩ : ∃ b1 b2, vx l (k + 1) = (b1, b2) := ⟨_, _, rfl⟩
      have c0 : wo.cell? ⟨b, off + k * 2, none⟩ = some (.int .i64 a1) := by have := (HC.out wo BO k hlt).1; rw [ha] at this; exact this
      have c1 : wo.cell? ⟨b, off + k * 2 + 1, none⟩ = some (.int .i64 a2) := by have := (HC.out wo BO k hlt).2; rw [ha] at this; exact this
      have em : vx l ((k + 1) % n) = (b1, b2) := by rw [← HN.out, vx_per, hbb]
      have c2 : wo.cell? ⟨b, off + (k + 1) % n * 2, none⟩ = some (.int .i64 b1) := by have := (HC.out wo BO _ m1).1; rw [em] at this; exact this
      have c3 : wo.cell? ⟨b, off + (k + 1) % n * 2 + 1, none⟩ = some (.int .i64 b2) := by have := (HC.out wo BO _ m1).2; rw [em] at this; exact this
      have za : Sz a1 a2 := by have := ZP.out k; rw [ha] at this; exact this
      have zb : Sz b1 b2 := by have := ZP.out (k + 1); rw [hbb] at this; exact this
      have KO := Lib.hid (fun W => pgOn_any a1 a2 b1 b2 p1 p2 W za zb hp)
      have TA := Lib.hid (fun W => pgTurn_any a1 a2 b1 b2 p1 p2 W za zb hp)
      have TB := Lib.hid (fun W => pgTurn_any b1 b2 a1 a2 p1 p2 W zb za hp)
      have eon : onE l (p1, p2) k = onB a1 a2 b1 b2 p1 p2 := by unfold onE; rw [ha, hbb]
      have HON2 : Hid (onB a1 a2 b1 b2 p1 p2 = true → r = 0) := Lib.hid (fun h => HON.out k (eon.trans h))
      have HF2 : Hid (onB a1 a2 b1 b2 p1 p2 = false → ∀ j, j < k + 1 → onE l (p1, p2) j = false) := Lib.hid (fun h j hj => by
        by_cases e : j = k
        · subst e; exact eon.trans h
        · exact hF.out j (by omega))
      have ecr : crN l (p1, p2) k = MJ.cr (a1, a2) (b1, b2) (p1, p2) := by unfold crN; rw [ha, hbb]
      have XA1 : Hid (a2 ≤ b2 → (a2 ≤ p2 ∧ p2 < b2 ∧ 0 < twI a1 a2 b1 b2 p1 p2) → decide (xsN l (p1, p2) (k + 1) % 2 = 1) = !decide (xsN l (p1, p2) k % 2 = 1)) := Lib.hid (fun h h' => xs_step1 (.inl (ecr.trans ((cr_low (a := (a1, a2)) (b := (b1, b2)) (p := (p1, p2)) h).1.2 h'))))
      have XA0 : Hid (a2 ≤ b2 → ¬ (a2 ≤ p2 ∧ p2 < b2 ∧ 0 < twI a1 a2 b1 b2 p1 p2) → decide (xsN l (p1, p2) (k + 1) % 2 = 1) = decide (xsN l (p1, p2) k % 2 = 1)) := Lib.hid (fun h h' => xs_step0 (ecr.trans ((cr_low (a := (a1, a2)) (b := (b1, b2)) (p := (p1, p2)) h).2 h')))
      have XB1 : Hid (b2 < a2 → (b2 ≤ p2 ∧ p2 < a2 ∧ 0 < twI b1 b2 a1 a2 p1 p2) → decide (xsN l (p1, p2) (k + 1) % 2 = 1) = !decide (xsN l (p1, p2) k % 2 = 1)) := Lib.hid (fun h h' => xs_step1 (.inr (ecr.trans ((cr_high (a := (a1, a2)) (b := (b1, b2)) (p := (p1, p2)) h).1.2 h'))))
      have XB0 : Hid (b2 < a2 → ¬ (b2 ≤ p2 ∧ p2 < a2 ∧ 0 < twI b1 b2 a1 a2 p1 p2) → decide (xsN l (p1, p2) (k + 1) % 2 = 1) = decide (xsN l (p1, p2) k % 2 = 1)) := Lib.hid (fun h h' => xs_step0 (ecr.trans ((cr_high (a := (a1, a2)) (b := (b1, b2)) (p := (p1, p2)) h).2 h')))
      clear ha hbb em za zb eon ecr hF
      generalize onB a1 a2 b1 b2 p1 p2 = ob at *
      generalize decide (xsN l (p1, p2) k % 2 = 1) = bk at *
      have i1 : IntKind.i64.wrap ((k : Int) + 1) = (k : Int) + 1 := IntWalk.i64_in _ (by omega)
      have i2 : ¬ n = 0 := by omega
      have i3 : (0 : Int) ≤ ((k : Int) + 1) % (n : Int) := Int.emod_nonneg _ (by omega)
      have i4 : ((k : Int) + 1) % (n : Int) < (n : Int) := Int.emod_lt_of_pos _ (by omega)
      have i5 : ((k : Int) + 1).tmod (n : Int) = ((k : Int) + 1) % (n : Int) := Int.tmod_eq_emod_of_nonneg (by omega)
      have i6 : (((k : Int) + 1) % (n : Int)).toNat = (k + 1) % n := by rw [show ((k : Int) + 1) % (n : Int) = (((k + 1) % n : Nat) : Int) by simp]; exact Int.toNat_natCast _
      have hzB := BO.size
      have hbo : b < wo.heap.size := by omega
      have hne : ¬ b = wo.heap.size := by omega
      go_wp2_with fail
      obtain ⟨Wb, hWb⟩ : ∃ Wb, Wb = ((wo.alloc (.cells #[.int .i64 a1, .int .i64 a2] 42)).alloc (.cells #[.int .i64 b1, .int .i64 b2] 42)) := ⟨_, rfl⟩
      rw [← hWb]
      have yWb0_0 : Wb.cell? ⟨wo.heap.size, 0, none⟩ = some (.int .i64 a1) := by rw [hWb]; go_simp
      have yWb0_1 : Wb.cell? ⟨wo.heap.size, 1, none⟩ = some (.int .i64 a2) := by rw [hWb]; go_simp
      have fWb0 : ∀ o, Wb.frozen? ⟨wo.heap.size, o, none⟩ = false := by intro o; rw [hWb]; (repeat rw [frozen?_alloc_cells]); simp [World.frozen?]
      have zWb0 : wo.heap.size < Wb.heap.size := by rw [hWb]; simp <;> omega
      have yWb1_0 : Wb.cell? ⟨wo.heap.size + 1, 0, none⟩ = some (.int .i64 b1) := by rw [hWb]; go_simp
      have yWb1_1 : Wb.cell? ⟨wo.heap.size + 1, 1, none⟩ = some (.int .i64 b2) := by rw [hWb]; go_simp
      have fWb1 : ∀ o, Wb.frozen? ⟨wo.heap.size + 1, o, none⟩ = false := by intro o; rw [hWb]; (repeat rw [frozen?_alloc_cells]); simp [World.frozen?]
      have zWb1 : wo.heap.size + 1 < Wb.heap.size := by rw [hWb]; simp <;> omega
      have BWb : Below wo.heap.size wo Wb := by rw [hWb]; exact (Below.alloc (Below.alloc (Below.refl _ _) (by simp <;> omega) _) (by simp <;> omega) _)
      have eWb : Hid (Wb.heap.size = wo.heap.size + 2) := Lib.hid (by rw [hWb]; simp)
      clear hWb
      have yb0 : Wb.cell? ⟨w.heap.size, 0, none⟩ = some (.int .i64 p1) := ((bcell BWb).1 _ _ zo).trans x0
      have yb1 : Wb.cell? ⟨w.heap.size, 1, none⟩ = some (.int .i64 p2) := ((bcell BWb).1 _ _ zo).trans x1
      have zpb : w.heap.size < Wb.heap.size := by have := BWb.size; omega
      have BB : Below w.heap.size w Wb := BO.trans (BWb.mono BO.size)
      clear c0 c1 c2 c3 i1 i3 i4 i5 i6 x0 x1 BO BWb fWb0 fWb1 eWb hne hbo
      refine (KO.out Wb).mono ?_; rintro e w2 ⟨rfl, hb2⟩
      have v0 := ((bcell hb2).1 _ _ zWb0).trans yWb0_0
      have v1 := ((bcell hb2).1 _ _ zWb0).trans yWb0_1
      have v2 := ((bcell hb2).1 _ _ zWb1).trans yWb1_0
      have v3 := ((bcell hb2).1 _ _ zWb1).trans yWb1_1
      have z2 := hb2.size
      have za2 : wo.heap.size < w2.heap.size := by omega
      have zb2 : wo.heap.size + 1 < w2.heap.size := by omega
      have u0 := ((bcell hb2).1 _ _ zpb).trans yb0
      have u1 := ((bcell hb2).1 _ _ zpb).trans yb1
      have BB2 := BB.trans (hb2.mono BB.size)
      clear hb2 BB yb0 yb1 yWb0_0 yWb0_1 yWb1_0 yWb1_1 KO
      cases ob
      · have HF3 := Lib.hid (HF2.out rfl)
        clear HF2 HON2
        have HF2 := HF3
        clear HF3
        go_upto_region 8 with fail
        go_cut [9, 10] from 30 to 31 (fun q r wx => ∃ g h : Nat, q = .pointer (some ⟨g, 0, none⟩) ∧ r = .pointer (some ⟨h, 0, none⟩) ∧ Below w2.heap.size w2 wx ∧ w2.heap.size ≤ g ∧ w2.heap.size ≤ h ∧ g ≠ h ∧ g < wx.heap.size ∧ h < wx.heap.size ∧ wx.cell? ⟨g, 0, none⟩ = some (.int .i64 a1) ∧ wx.cell? ⟨g, 1, none⟩ = some (.int .i64 a2) ∧ wx.cell? ⟨h, 0, none⟩ = some (.int .i64 b1) ∧ wx.cell? ⟨h, 1, none⟩ = some (.int .i64 b2) ∧ (∀ o, wx.frozen? ⟨g, o, none⟩ = false) ∧ ∀ o, wx.frozen? ⟨h, o, none⟩ = false)
        case first =>
          clear XA1 XA0 XB1 XB0 TA TB
          go_region
          all_goals
            go_wp2_with fail
            go_meet
            case rel =>
              refine ⟨_, _, rfl, rfl, ?_, by simp <;> omega, by simp <;> omega, by simp <;> omega, by simp <;> omega, by simp <;> omega, by go_simp, by go_simp, by go_simp, by go_simp, ?_, ?_⟩
              · repeat (first | with_reducible assumption | with_reducible exact Below.refl _ _ | with_reducible apply Below.drew | ((with_reducible refine Below.setCell ?_ ?_ _); rotate_left; (first | exact Nat.le_refl _ | omega | (simp <;> omega))) | ((with_reducible refine Below.alloc ?_ ?_ _); rotate_left; (first | omega | (simp <;> omega))))
              · intro o; (try simp only [World.frozen?_setCell]); (try rw [frozen_drew]); (repeat rw [frozen?_alloc_cells]); simp [World.frozen?]
              · intro o; (try simp only [World.frozen?_setCell]); (try rw [frozen_drew]); (repeat rw [frozen?_alloc_cells]); simp [World.frozen?]
        case rest =>
        obtain ⟨g, h, rfl, rfl, q1, g1, g2, gh, g3, g4, q2, q3, q4, q5, f1, f2⟩ := hcut
        rename World => wc
        have va0 := ((bcell q1).1 _ _ za2).trans v0
        have va1 := ((bcell q1).1 _ _ za2).trans v1
        have vb0 := ((bcell q1).1 _ _ zb2).trans v2
        have vb1 := ((bcell q1).1 _ _ zb2).trans v3
        have zc := q1.size
        have zac : wo.heap.size < wc.heap.size := by omega
        have zbc : wo.heap.size + 1 < wc.heap.size := by omega
        clear v0 v1 v2 v3
        have e0 := f1 0
        have e1 := f1 1
        have e2 := f2 0
        have e3 := f2 1
        clear f1 f2
        have hp2 : w.heap.size < w2.heap.size := by omega
        by_cases hsw : b2 < a2
        · have HX1 := Lib.hid (XB1.out hsw)
          have HX0 := Lib.hid (XB0.out hsw)
          have T := TB
          clear XA1 XA0 XB1 XB0 TA TB
          generalize twI b1 b2 a1 a2 p1 p2 = t at *
          go_upto_region 12 with fail
          obtain ⟨w4, hw4, r1, r0, r2, r3, r4, r5, q6⟩ := two_set (a1 := a1) (a2 := a2) (b1 := b1) (b2 := b2) gh g1 g2 q1 q2 q3 q4 q5
          rw [← hw4]
          clear hw4 q1 q2 q3 q4 q5 e0 e1 e2 e3 va0 va1 vb0 vb1
          have q1 := r1
          have q2 := r2
          have q3 := r3
          have q4 := r4
          have q5 := r5
          clear r1 r2 r3 r4 r5
          have y0 : w4.cell? ⟨w.heap.size, 0, none⟩ = some (.int .i64 p1) := (q6 _ _ hp2).trans u0
          have y1 : w4.cell? ⟨w.heap.size, 1, none⟩ = some (.int .i64 p2) := (q6 _ _ hp2).trans u1
          have zg : g < w4.heap.size := by omega
          have zh : h < w4.heap.size := by omega
          have zp : w.heap.size < w4.heap.size := by omega
          have B4 : Below w.heap.size w w4 := BB2.trans (q1.mono (by omega))
          clear q6 q1 u0 u1 BB2
          by_cases d1 : b2 ≤ p2
          · by_cases d2 : p2 < a2
            · have TT := Lib.hid (fun W => T.out W)
              by_cases d3 : 0 < t
              · have hst := Lib.hid (HX1.out ⟨d1, d2, d3⟩)
                clear HX1 HX0
                go_wp2_with fail
                refine (TT.out w4).mono ?_; rintro e w5 ⟨rfl, hb5⟩
                have B5 := B4.trans (hb5.mono B4.size)
                have z5 := hb5.size
                have v0 := ((bcell hb5).1 _ _ zp).trans y0
                have v1 := ((bcell hb5).1 _ _ zp).trans y1
                clear hb5 y0 y1 B4 q2 q3 q4 q5
                go_wp2_with fail
                go_roundg (n - (k + 1))
                case measure => have := HGK.out; omega
                case rel => exact ⟨k + 1, by omega, rfl, by go_num, by rw [hst.out], ⟨B5, by omega, v0, v1⟩, HF2⟩
              · have hst := Lib.hid (HX0.out (fun h => d3 h.2.2))
                clear HX1 HX0
                go_wp2_with fail
                refine (TT.out w4).mono ?_; rintro e w5 ⟨rfl, hb5⟩
                have B5 := B4.trans (hb5.mono B4.size)
                have z5 := hb5.size
                have v0 := ((bcell hb5).1 _ _ zp).trans y0
                have v1 := ((bcell hb5).1 _ _ zp).trans y1
                clear hb5 y0 y1 B4 q2 q3 q4 q5
                go_wp2_with fail
                go_roundg (n - (k + 1))
                case measure => have := HGK.out; omega
                case rel => exact ⟨k + 1, by omega, rfl, by go_num, by rw [hst.out], ⟨B5, by omega, v0, v1⟩, HF2⟩
            · have hst := Lib.hid (HX0.out (fun h => d2 h.2.1))
              clear HX1 HX0
              go_wp2_with fail
              go_roundg (n - (k + 1))
              case measure => have := HGK.out; omega
              case rel => exact ⟨k + 1, by omega, rfl, by go_num, by rw [hst.out], ⟨B4, by omega, y0, y1⟩, HF2⟩
          · have hst := Lib.hid (HX0.out (fun h => d1 h.1))
            clear HX1 HX0
            go_wp2_with fail
            go_roundg (n - (k + 1))
            case measure => have := HGK.out; omega
            case rel => exact ⟨k + 1, by omega, rfl, by go_num, by rw [hst.out], ⟨B4, by omega, y0, y1⟩, HF2⟩
        · have hns : a2 ≤ b2 := by omega
          have HX1 := Lib.hid (XA1.out hns)
          have HX0 := Lib.hid (XA0.out hns)
          have T := TA
          clear XA1 XA0 XB1 XB0 TA TB
          generalize twI a1 a2 b1 b2 p1 p2 = t at *
          go_upto_region 12 with fail
          have q6 : ∀ x o, x < w2.heap.size → wc.cell? ⟨x, o, none⟩ = w2.cell? ⟨x, o, none⟩ := fun x o hx => (bcell q1).1 x o hx
          rename World => w4
          clear e0 e1 e2 e3 va0 va1 vb0 vb1
          have y0 : w4.cell? ⟨w.heap.size, 0, none⟩ = some (.int .i64 p1) := (q6 _ _ hp2).trans u0
          have y1 : w4.cell? ⟨w.heap.size, 1, none⟩ = some (.int .i64 p2) := (q6 _ _ hp2).trans u1
          have zg : g < w4.heap.size := by omega
          have zh : h < w4.heap.size := by omega
          have zp : w.heap.size < w4.heap.size := by omega
          have B4 : Below w.heap.size w w4 := BB2.trans (q1.mono (by omega))
          clear q6 q1 u0 u1 BB2
          by_cases d1 : a2 ≤ p2
          · by_cases d2 : p2 < b2
            · have TT := Lib.hid (fun W => T.out W)
              by_cases d3 : 0 < t
              · have hst := Lib.hid (HX1.out ⟨d1, d2, d3⟩)
                clear HX1 HX0
                go_wp2_with fail
                refine (TT.out w4).mono ?_; rintro e w5 ⟨rfl, hb5⟩
                have B5 := B4.trans (hb5.mono B4.size)
                have z5 := hb5.size
                have v0 := ((bcell hb5).1 _ _ zp).trans y0
                have v1 := ((bcell hb5).1 _ _ zp).trans y1
                clear hb5 y0 y1 B4 q2 q3 q4 q5
                go_wp2_with fail
                go_roundg (n - (k + 1))
                case measure => have := HGK.out; omega
                case rel => exact ⟨k + 1, by omega, rfl, by go_num, by rw [hst.out], ⟨B5, by omega, v0, v1⟩, HF2⟩
              · have hst := Lib.hid (HX0.out (fun h => d3 h.2.2))
                clear HX1 HX0
                go_wp2_with fail
                refine (TT.out w4).mono ?_; rintro e w5 ⟨rfl, hb5⟩
                have B5 := B4.trans (hb5.mono B4.size)
                have z5 := hb5.size
                have v0 := ((bcell hb5).1 _ _ zp).trans y0
                have v1 := ((bcell hb5).1 _ _ zp).trans y1
                clear hb5 y0 y1 B4 q2 q3 q4 q5
                go_wp2_with fail
                go_roundg (n - (k + 1))
                case measure => have := HGK.out; omega
                case rel => exact ⟨k + 1, by omega, rfl, by go_num, by rw [hst.out], ⟨B5, by omega, v0, v1⟩, HF2⟩
            · have hst := Lib.hid (HX0.out (fun h => d2 h.2.1))
              clear HX1 HX0
              go_wp2_with fail
              go_roundg (n - (k + 1))
              case measure => have := HGK.out; omega
              case rel => exact ⟨k + 1, by omega, rfl, by go_num, by rw [hst.out], ⟨B4, by omega, y0, y1⟩, HF2⟩
          · have hst := Lib.hid (HX0.out (fun h => d1 h.1))
            clear HX1 HX0
            go_wp2_with fail
            go_roundg (n - (k + 1))
            case measure => have := HGK.out; omega
            case rel => exact ⟨k + 1, by omega, rfl, by go_num, by rw [hst.out], ⟨B4, by omega, y0, y1⟩, HF2⟩
      · have hr := Lib.hid (HON2.out rfl)
        go_wp2_with fail
        go_ret
        exact ⟨ret_int hr.out.symm, BB2⟩
    · have hkn : n = k := by omega
      subst hkn
      have hy := Lib.hid (HX.out (fun j hj => hF.out j hj))
      by_cases hx : xsN l (p1, p2) n % 2 = 1
      · have hd := decide_eq_true hx
        rw [if_pos hx] at hy
        rw [hd]
        clear hx hd
        go_wp2_with fail
        go_ret
        exact ⟨ret_int hy.out.symm, BO⟩
      · have hd := decide_eq_false hx
        rw [if_neg hx] at hy
        rw [hd]
        clear hx hd
        go_wp2_with fail
        go_ret
        exact ⟨ret_int hy.out.symm, BO⟩
end Go.Proofs.Ytieimijkkjhegaa

