/- contracts: points in a band, layers: the program's side -/
import Derived.Test.YthpbnfmfedggjaaMA
import Derived.Test.YthpbnfmfedggjaaSc
import Derived.Maps.AppendAt
import Derived.Test.YthpbnfmfedggjaaMB
import Derived.Test.YthpbnfmfedggjaaBn
namespace Go.Proofs.Ythpbnfmfedggjaa
open Go.ChangeShapes Go.WideShapes Go.ChangeAt Go.RowKit Go.Joins
set_option linter.unusedVariables false
set_option linter.unusedSimpArgs false
set_option maxRecDepth 4000
theorem up_bd (c n p : Int × Int) : 0 ≤ MP.up c n p ∧ MP.up c n p ≤ 1 := by unfold MP.up; split <;> omega
theorem dn_bd (c n p : Int × Int) : 0 ≤ MP.dn c n p ∧ MP.dn c n p ≤ 1 := by unfold MP.dn; split <;> omega
theorem ron_bd (P : Nat → Int × Int) (p : Int × Int) : ∀ k : Nat, -(k : Int) ≤ MP.ron P p k ∧ MP.ron P p k ≤ k
  | 0 => by unfold MP.ron; omega
  | k + 1 => by
    have := ron_bd P p k
    have := up_bd (P k) (P (k + 1)) p
    have := dn_bd (P k) (P (k + 1)) p
    unfold MP.ron
    omega
set_option maxHeartbeats 8000000 in
theorem placeIn_any (A : Option Addr) (c : Nat) (l : List (Int × Int)) (p : Int × Int) (w : World) (h1 : 1 ≤ l.length) (hn : l.length ≤ 60) (hp : ∀ i, i < l.length → isPg (vx l i) = true) (hpp : isPg p = true) (hR : Rd w w.heap.size A l) :
    Calls Try.prog 62 #[.slice A l.length c, .agg #[.int .i64 p.1, .int .i64 p.2]] w fun e w' => e = .returned (.int .i64 (placeI l p)) ∧ Below w.heap.size w w' := by
  obtain ⟨p1, p2⟩ := p
  have KC := Lib.hid (fun W (hb : Below w.heap.size w W) => cornersAroundW_any A c l W h1 hn (rd_more (rd_below hR hb (Nat.le_refl _)) hb.size))
  have ZP := Lib.hid (fun i => pgs_sz hp i (by omega))
  have ZQ : Hid (Sz p1 p2) := Lib.hid (sz_of hpp)
  have HS : Hid (∀ k, MP.ron (vx l) (p1, p2) (k + 1) = MP.ron (vx l) (p1, p2) k + (if (vx l k).2 ≤ p2 ∧ p2 < (vx l (k + 1)).2 ∧ 0 < twI (vx l k).1 (vx l k).2 (vx l (k + 1)).1 (vx l (k + 1)).2 p1 p2 then 1 else 0) - (if (vx l (k + 1)).2 ≤ p2 ∧ p2 < (vx l k).2 ∧ twI (vx l k).1 (vx l k).2 (vx l (k + 1)).1 (vx l (k + 1)).2 p1 p2 < 0 then 1 else 0)) := Lib.hid (fun k => rfl)
  have H0 : Hid (MP.ron (vx l) (p1, p2) 0 = 0) := Lib.hid rfl
  have HB := Lib.hid (ron_bd (vx l) (p1, p2))
  have HP1 : Hid (∀ i, i < l.length → onB (vx l i).1 (vx l i).2 (vx l (i + 1)).1 (vx l (i + 1)).2 p1 p2 = true → placeI l (p1, p2) = 0) := Lib.hid (fun i hi h => (place_on l (p1, p2)).2 ⟨i, hi, h⟩)
  have HP2 : Hid ((∀ i, i < l.length → onB (vx l i).1 (vx l i).2 (vx l (i + 1)).1 (vx l (i + 1)).2 p1 p2 = false) → placeI l (p1, p2) = if MP.ron (vx l) (p1, p2) l.length = 0 then -1 else 1) := Lib.hid (fun h => by
    unfold placeI
    rw [if_neg]
    intro ho
    obtain ⟨i, hi, e⟩ := onHB_iff.1 ho
    have := h i hi
    unfold onP at e
    rw [this] at e
    cases e)
  clear hR hp hpp
  generalize placeI l (p1, p2) = r at *
  generalize hN : l.length = n at *
  have HN := Lib.hid hN
  clear hN
  go_enter Try.func62, Try.ntmps62
  go_wp2_with fail
  obtain ⟨W1, hW1⟩ : ∃ W1, W1 = (w.alloc (.cells #[.int .i64 p1, .int .i64 p2] 38)) := ⟨_, rfl⟩
  rw [← hW1]
  have yW10_0 : W1.cell? ⟨w.heap.size, 0, none⟩ = some (.int .i64 p1) := by rw [hW1]; go_simp
  have yW10_1 : W1.cell? ⟨w.heap.size, 1, none⟩ = some (.int .i64 p2) := by rw [hW1]; go_simp
  have fW10 : ∀ o, W1.frozen? ⟨w.heap.size, o, none⟩ = false := by intro o; rw [hW1]; (repeat rw [frozen?_alloc_cells]); simp [World.frozen?]
  have zW10 : w.heap.size < W1.heap.size := by rw [hW1]; simp <;> omega
  have BW1 : Below w.heap.size w W1 := by rw [hW1]; exact (Below.alloc (Below.refl _ _) (by simp <;> omega) _)
  have eW1 : Hid (W1.heap.size = w.heap.size + 1) := Lib.hid (by rw [hW1]; simp)
  clear hW1
  refine (KC.out W1 BW1).mono ?_; rintro e w2 ⟨rfl, hb2, hSC⟩
  obtain ⟨g, hg⟩ : ∃ g, g = W1.heap.size := ⟨_, rfl⟩
  rw [← hg] at hSC ⊢
  have hgs : g < w2.heap.size := hSC.1
  have CE : Hid (∀ W, Below w2.heap.size w2 W → ∀ i, i < n → (W.cell? ⟨g, i * 6, none⟩ = some (.int .i64 (vx l i).1) ∧ W.cell? ⟨g, i * 6 + 1, none⟩ = some (.int .i64 (vx l i).2) ∧ W.cell? ⟨g, i * 6 + 2, none⟩ = some (.int .i64 (vx l (i + n - 1)).1) ∧ W.cell? ⟨g, i * 6 + 3, none⟩ = some (.int .i64 (vx l (i + n - 1)).2) ∧ W.cell? ⟨g, i * 6 + 4, none⟩ = some (.int .i64 (vx l (i + 1)).1) ∧ W.cell? ⟨g, i * 6 + 5, none⟩ = some (.int .i64 (vx l (i + 1)).2))) := Lib.hid (fun W hW i hi => by
    obtain ⟨c0, c1, c2, c3, c4, c5⟩ := hSC.2.2 i hi
    have hc := (bcell hW).1
    exact ⟨(hc _ _ hgs).trans c0, (hc _ _ hgs).trans c1, (hc _ _ hgs).trans c2, (hc _ _ hgs).trans c3, (hc _ _ hgs).trans c4, (hc _ _ hgs).trans c5⟩)
  have hb12 := hb2.size
  have TR : Hid (∀ W, Below w2.heap.size w2 W → Below w.heap.size w W) := Lib.hid (fun W hW => (BW1.trans (hb2.mono BW1.size)).trans (hW.mono (Nat.le_trans BW1.size hb12)))
  have YP : Hid (∀ W, Below w2.heap.size w2 W → W.cell? ⟨w.heap.size, 0, none⟩ = some (.int .i64 p1) ∧ W.cell? ⟨w.heap.size, 1, none⟩ = some (.int .i64 p2) ∧ w.heap.size < W.heap.size) := Lib.hid (fun W hW => by
    have hc := (bcell hW).1
    have hd := (bcell hb2).1
    have := hW.size
    exact ⟨(hc _ _ (by omega)).trans ((hd _ _ zW10).trans yW10_0), (hc _ _ (by omega)).trans ((hd _ _ zW10).trans yW10_1), by omega⟩)
  clear KC hb2 hSC hg BW1 yW10_0 yW10_1 fW10 eW1 hb12
  go_wp2_with fail
  go_loopg [5, 12] n (fun gg s i wr => ∃ k : Nat, k ≤ n ∧ gg = n - k ∧ i = .int .i64 k ∧ s = .int .i64 (MP.ron (vx l) (p1, p2) k) ∧ Below w2.heap.size w2 wr ∧ Hid (∀ i, i < k → onB (vx l i).1 (vx l i).2 (vx l (i + 1)).1 (vx l (i + 1)).2 p1 p2 = false))
  case atStart => exact ⟨0, Nat.zero_le _, rfl, rfl, by rw [H0.out], Below.refl _ _, Lib.hid (fun i h => absurd h (Nat.not_lt_zero _))⟩
  case round =>
    obtain ⟨k, hk, hgg, rfl, rfl, hB, hF⟩ := hrel
    rename World => wo
    have HGK := Lib.hid hgg
    clear hgg
    by_cases hlt : k < n
    · obtain ⟨x0, x1, x2, x3, x4, x5⟩ := CE.out wo hB k hlt
      obtain ⟨y0, y1, zp⟩ := YP.out wo hB
      have hzB := hB.size
      have hgo : g < wo.heap.size := by omega
      have T1 := Lib.hid (fun W => isBetween_any p1 p2 (vx l k).1 (vx l k).2 (vx l (k + 1)).1 (vx l (k + 1)).2 W ZQ.out (ZP.out _) (ZP.out _))
      have T2 := Lib.hid (fun W => twiceThree_any (vx l k).1 (vx l k).2 (vx l (k + 1)).1 (vx l (k + 1)).2 p1 p2 W (ZP.out _) (ZP.out _) ZQ.out)
      have HR0 := Lib.hid (HP1.out k hlt)
      have HF2 : Hid (onB (vx l k).1 (vx l k).2 (vx l (k + 1)).1 (vx l (k + 1)).2 p1 p2 = false → ∀ i, i < k + 1 → onB (vx l i).1 (vx l i).2 (vx l (i + 1)).1 (vx l (i + 1)).2 p1 p2 = false) := Lib.hid (fun h i hi => by
        by_cases e : i = k
        · rw [e]; exact h
        · exact hF.out i (by omega))
      have E0 := Lib.hid (HS.out k)
      obtain ⟨bs1, bs2⟩ := HB.out k
      generalize hs : MP.ron (vx l) (p1, p2) k = s at *
      have HSS := Lib.hid hs
      clear hs
      have bs : -70 ≤ s ∧ s ≤ 70 := by omega
      clear bs1 bs2
      obtain ⟨bs1, bs2⟩ := bs
      generalize twI (vx l k).1 (vx l k).2 (vx l (k + 1)).1 (vx l (k + 1)).2 p1 p2 = t at *
      generalize onB (vx l k).1 (vx l k).2 (vx l (k + 1)).1 (vx l (k + 1)).2 p1 p2 = ob at *
      generalize (vx l k).1 = c1 at *
      generalize (vx l k).2 = c2 at *
      generalize (vx l (k + 1)).1 = n1 at *
      generalize (vx l (k + 1)).2 = n2 at *
      generalize (vx l (k + n - 1)).1 = b1 at *
      generalize (vx l (k + n - 1)).2 = b2 at *
      go_wp2_with fail
      obtain ⟨Wc, hWc⟩ : ∃ Wc, Wc = (wo.alloc (.cells #[.int .i64 c1, .int .i64 c2, .int .i64 b1, .int .i64 b2, .int .i64 n1, .int .i64 n2] 60)) := ⟨_, rfl⟩
      rw [← hWc]
      have yWc0_0 : Wc.cell? ⟨wo.heap.size, 0, none⟩ = some (.int .i64 c1) := by rw [hWc]; go_simp
      have yWc0_1 : Wc.cell? ⟨wo.heap.size, 1, none⟩ = some (.int .i64 c2) := by rw [hWc]; go_simp
      have yWc0_2 : Wc.cell? ⟨wo.heap.size, 2, none⟩ = some (.int .i64 b1) := by rw [hWc]; go_simp
      have yWc0_3 : Wc.cell? ⟨wo.heap.size, 3, none⟩ = some (.int .i64 b2) := by rw [hWc]; go_simp
      have yWc0_4 : Wc.cell? ⟨wo.heap.size, 4, none⟩ = some (.int .i64 n1) := by rw [hWc]; go_simp
      have yWc0_5 : Wc.cell? ⟨wo.heap.size, 5, none⟩ = some (.int .i64 n2) := by rw [hWc]; go_simp
      have fWc0 : ∀ o, Wc.frozen? ⟨wo.heap.size, o, none⟩ = false := by intro o; rw [hWc]; (repeat rw [frozen?_alloc_cells]); simp [World.frozen?]
      have zWc0 : wo.heap.size < Wc.heap.size := by rw [hWc]; simp <;> omega
      have BWc : Below wo.heap.size wo Wc := by rw [hWc]; exact (Below.alloc (Below.refl _ _) (by simp <;> omega) _)
      have eWc : Hid (Wc.heap.size = wo.heap.size + 1) := Lib.hid (by rw [hWc]; simp)
      clear hWc
      have v0 := ((bcell BWc).1 _ 0 zp).trans y0
      have v1 := ((bcell BWc).1 _ 1 zp).trans y1
      have zq : w.heap.size < Wc.heap.size := Nat.lt_of_lt_of_le zp BWc.size
      have BC := hB.trans (BWc.mono hzB)
      clear x0 x1 x2 x3 x4 x5 y0 y1 zp hgo BWc fWc0 eWc
      refine (T1.out _).mono ?_; rintro e w3 ⟨rfl, hb3⟩
      have B3 := BC.trans (hb3.mono BC.size)
      have hc3 := (bcell hb3).1
      have q0 := (hc3 _ 0 zWc0).trans yWc0_0
      have q1 := (hc3 _ 1 zWc0).trans yWc0_1
      have q4 := (hc3 _ 4 zWc0).trans yWc0_4
      have q5 := (hc3 _ 5 zWc0).trans yWc0_5
      have u0 := (hc3 _ 0 zq).trans v0
      have u1 := (hc3 _ 1 zq).trans v1
      have zc3 : wo.heap.size < w3.heap.size := Nat.lt_of_lt_of_le zWc0 hb3.size
      have zq3 : w.heap.size < w3.heap.size := Nat.lt_of_lt_of_le zq hb3.size
      clear hc3 hb3 yWc0_0 yWc0_1 yWc0_2 yWc0_3 yWc0_4 yWc0_5 v0 v1 zq zWc0 BC T1
      cases ob with
      | true =>
        have HR1 : Hid (r = 0) := Lib.hid (HR0.out rfl)
        have BB := Lib.hid (TR.out _ B3)
        clear q0 q1 q4 q5 u0 u1
        go_wp2_with fail
        go_ret
        exact ⟨ret_int HR1.out.symm, BB.out⟩
      | false =>
        have HF3 := Lib.hid (HF2.out rfl)
        clear HF2 hF
        go_wp2_with fail
        refine (T2.out _).mono ?_; rintro e w4 ⟨rfl, hb4⟩
        have B4 := B3.trans (hb4.mono B3.size)
        have hc4 := (bcell hb4).1
        have r1 := (hc4 _ 1 zc3).trans q1
        have r5 := (hc4 _ 5 zc3).trans q5
        have s1 := (hc4 _ 1 zq3).trans u1
        clear hc4 hb4 q0 q1 q4 q5 u0 u1 zc3 zq3 T2 B3
        by_cases a1 : c2 ≤ p2
        · by_cases a2 : p2 < n2
          · have a4 : ¬ n2 ≤ p2 := by omega
            by_cases a3 : (0 : Int) < t
            · have HX := Lib.hid a3
              have HE : Hid (MP.ron (vx l) (p1, p2) (k + 1) = s + 1) := Lib.hid (by rw [E0.out, if_pos (c := _ ∧ _ ∧ _) (by omega), if_neg (c := _ ∧ _ ∧ _) (by omega)]; omega)
              have b4 : IntKind.i64.wrap (s + 1) = s + 1 := IntWalk.i64_in _ (by omega)
              go_wp2_with fail
              go_roundg (n - (k + 1))
              case measure => have := HGK.out; omega
              case rel => exact ⟨k + 1, by omega, rfl, by go_num, by rw [HE.out], B4, HF3⟩
            · have HX := Lib.hid a3
              have HE : Hid (MP.ron (vx l) (p1, p2) (k + 1) = s) := Lib.hid (by rw [E0.out, if_neg (c := _ ∧ _ ∧ _) (by omega), if_neg (c := _ ∧ _ ∧ _) (by omega)]; omega)
              go_wp2_with fail
              go_roundg (n - (k + 1))
              case measure => have := HGK.out; omega
              case rel => exact ⟨k + 1, by omega, rfl, by go_num, by rw [HE.out], B4, HF3⟩
          · have a4 : n2 ≤ p2 := by omega
            have a5 : ¬ p2 < c2 := by omega
            have HE : Hid (MP.ron (vx l) (p1, p2) (k + 1) = s) := Lib.hid (by rw [E0.out, if_neg (c := _ ∧ _ ∧ _) (by omega), if_neg (c := _ ∧ _ ∧ _) (by omega)]; omega)
            go_wp2_with fail
            go_roundg (n - (k + 1))
            case measure => have := HGK.out; omega
            case rel => exact ⟨k + 1, by omega, rfl, by go_num, by rw [HE.out], B4, HF3⟩
        · have a5 : p2 < c2 := by omega
          by_cases a4 : n2 ≤ p2
          · by_cases a3 : t < (0 : Int)
            · have HX := Lib.hid a3
              have HE : Hid (MP.ron (vx l) (p1, p2) (k + 1) = s - 1) := Lib.hid (by rw [E0.out, if_neg (c := _ ∧ _ ∧ _) (by omega), if_pos (c := _ ∧ _ ∧ _) (by omega)]; omega)
              have b4 : IntKind.i64.wrap (s - 1) = s - 1 := IntWalk.i64_in _ (by omega)
              go_wp2_with fail
              go_roundg (n - (k + 1))
              case measure => have := HGK.out; omega
              case rel => exact ⟨k + 1, by omega, rfl, by go_num, by rw [HE.out], B4, HF3⟩
            · have HX := Lib.hid a3
              have HE : Hid (MP.ron (vx l) (p1, p2) (k + 1) = s) := Lib.hid (by rw [E0.out, if_neg (c := _ ∧ _ ∧ _) (by omega), if_neg (c := _ ∧ _ ∧ _) (by omega)]; omega)
              go_wp2_with fail
              go_roundg (n - (k + 1))
              case measure => have := HGK.out; omega
              case rel => exact ⟨k + 1, by omega, rfl, by go_num, by rw [HE.out], B4, HF3⟩
          · have HX := Lib.hid a4
            have HE : Hid (MP.ron (vx l) (p1, p2) (k + 1) = s) := Lib.hid (by rw [E0.out, if_neg (c := _ ∧ _ ∧ _) (by omega), if_neg (c := _ ∧ _ ∧ _) (by omega)]; omega)
            go_wp2_with fail
            go_roundg (n - (k + 1))
            case measure => have := HGK.out; omega
            case rel => exact ⟨k + 1, by omega, rfl, by go_num, by rw [HE.out], B4, HF3⟩
    · have hkn : n = k := by omega
      subst hkn
      have BB := Lib.hid (TR.out _ hB)
      have hr := HP2.out hF.out
      have HRR := Lib.hid hr
      clear hr
      generalize hs : MP.ron (vx l) (p1, p2) n = s at *
      have HSS := Lib.hid hs
      clear hs
      by_cases hz : s = 0
      · have HR1 : Hid (r = -1) := Lib.hid (by rw [HRR.out, if_pos hz])
        subst hz
        go_wp2_with fail
        go_ret
        exact ⟨ret_int HR1.out.symm, BB.out⟩
      · have HR1 : Hid (r = 1) := Lib.hid (by rw [HRR.out, if_neg hz])
        go_wp2_with fail
        go_ret
        exact ⟨ret_int HR1.out.symm, BB.out⟩
theorem pegsAt_any (A : Option Addr) (c n : Nat) (s : List (Int × Int)) (A' : Option Addr) (c' m : Nat) (H : List (Int × Int)) (q : Int) (w : World) (hsn : s.length = n) (hn : n ≤ 60) (hs : ∀ x ∈ s, isPg x = true) (hR : Rd w w.heap.size A s)
    (hHm : H.length = m) (h1 : 1 ≤ m) (hm : m ≤ 60) (hH : ∀ i, i < H.length → isPg (vx H i) = true) (hR' : Rd w w.heap.size A' H) :
    Calls Try.prog 67 #[.slice A n c, .slice A' m c', .int .i64 q] w fun e w' => (∃ v, e = .returned v ∧ w'.ownsRow w.heap.size 38 2 v (s.filter (atF H q)).length (flat (s.filter (atF H q)))) ∧ Below w.heap.size w w' := by
  obtain ⟨i0, hi0, hz0, hz1, hz2⟩ := info_parts peg_info
  have HI := Lib.hid (And.intro hi0 (And.intro hz0 (And.intro hz1 hz2)))
  have KP : Hid (∀ k W, k < n → Below w.heap.size w W → Calls Try.prog 62 #[.slice A' m c', .agg #[.int .i64 (pt s k).1, .int .i64 (pt s k).2]] W fun e w' => e = .returned (.int .i64 (placeI H (pt s k))) ∧ Below W.heap.size W w') := Lib.hid (fun k W hk hb => by
    have := placeIn_any A' c' H (pt s k) W (by omega) (by omega) hH (hs _ (pt_mem (by omega))) (rd_more (rd_below hR' hb (Nat.le_refl _)) hb.size)
    rw [hHm] at this
    exact this)
  have HC : Hid (∀ W, Below w.heap.size w W → ∀ i, i < n → ∃ b off, A = some ⟨b, off, none⟩ ∧ b < w.heap.size ∧ W.cell? ⟨b, off + i * 2, none⟩ = some (.int .i64 (pt s i).1) ∧ W.cell? ⟨b, off + i * 2 + 1, none⟩ = some (.int .i64 (pt s i).2)) := Lib.hid (fun W hW i hi => by
    obtain ⟨b, off, e, hb, hc⟩ := hR (by omega)
    obtain ⟨h1, h2⟩ := hc i _ (pt_get (by omega))
    exact ⟨b, off, e, hb, (hW.cell (p := ⟨b, off + i * 2, none⟩) hb).trans h1, (hW.cell (p := ⟨b, off + i * 2 + 1, none⟩) hb).trans h2⟩)
  have HY : Hid (∀ k, k < n → placeI H (pt s k) = q → pick (atF H q) s (k + 1) = pick (atF H q) s k ++ [pt s k]) := Lib.hid (fun k hk h => pick_yes (by omega) (by unfold atF; exact decide_eq_true h))
  have HZ : Hid (∀ k, k < n → placeI H (pt s k) ≠ q → pick (atF H q) s (k + 1) = pick (atF H q) s k) := Lib.hid (fun k hk h => pick_no (by omega) (by unfold atF; exact decide_eq_false h))
  have HL : Hid (∀ k, (pick (atF H q) s k).length ≤ k) := Lib.hid (fun k => pick_len _ _ _)
  have H0 : Hid (pick (atF H q) s 0 = []) := Lib.hid (pick_zero _ _)
  have HE : Hid (s.filter (atF H q) = pick (atF H q) s n) := Lib.hid (pick_all _ _ (by omega)).symm
  clear hR hR' hs hH hHm hi0 hz0 hz1 hz2
  generalize s.filter (atF H q) = res at *
  generalize pick (atF H q) s = PK at *
  have HSN := Lib.hid hsn
  clear hsn
  go_enter Try.func67, Try.ntmps67
  go_wp2_with fail
  go_loopg [7, 12] n (fun g o i wr => ∃ (k : Nat) (v : Value), v = o ∧ k ≤ n ∧ g = n - k ∧ i = .int .i64 k ∧ Below w.heap.size w wr ∧ Hid (wr.ownsRow w.heap.size 38 2 v (PK k).length (flat (PK k))))
  case atStart => exact ⟨0, _, rfl, Nat.zero_le _, rfl, rfl, Below.refl _ _, Lib.hid (by rw [H0.out]; exact World.ownsRow_nil _ _ _ _)⟩
  case round =>
    obtain ⟨k, v, rfl, hk, hg, rfl, hB, hO⟩ := hrel
    rename World => wo
    have HGK := Lib.hid hg
    clear hg
    by_cases hlt : k < n
    · obtain ⟨b, off, hA, hb, x1, x2⟩ := HC.out wo hB k hlt
      subst hA
      have hlk := HL.out k
      have KPk := Lib.hid (fun W hb => KP.out k W hlt hb)
      have HIO := Lib.hid (And.intro (HY.out k hlt) (HZ.out k hlt))
      have hzB := hB.size
      have zb : b < wo.heap.size := by omega
      generalize placeI H (pt s k) = pl at *
      obtain ⟨q1, q2, hqe⟩ : ∃ q1 q2, pt s k = (q1, q2) := ⟨_, _, rfl⟩
      rw [hqe] at x1 x2 HIO KPk
      clear hqe
      generalize hK0 : PK k = Jk at *
      have HK0 := Lib.hid hK0
      clear hK0
      go_wp2_with fail
      obtain ⟨Wc, hWc⟩ : ∃ Wc, Wc = (wo.alloc (.cells #[.int .i64 q1, .int .i64 q2] 38)) := ⟨_, rfl⟩
      rw [← hWc]
      have yWc0_0 : Wc.cell? ⟨wo.heap.size, 0, none⟩ = some (.int .i64 q1) := by rw [hWc]; go_simp
      have yWc0_1 : Wc.cell? ⟨wo.heap.size, 1, none⟩ = some (.int .i64 q2) := by rw [hWc]; go_simp
      have fWc0 : ∀ o, Wc.frozen? ⟨wo.heap.size, o, none⟩ = false := by intro o; rw [hWc]; (repeat rw [frozen?_alloc_cells]); simp [World.frozen?]
      have zWc0 : wo.heap.size < Wc.heap.size := by rw [hWc]; simp <;> omega
      have BWc : Below wo.heap.size wo Wc := by rw [hWc]; exact (Below.alloc (Below.refl _ _) (by simp <;> omega) _)
      have eWc : Hid (Wc.heap.size = wo.heap.size + 1) := Lib.hid (by rw [hWc]; simp)
      clear hWc
      have BC := hB.trans (BWc.mono hzB)
      refine (KPk.out Wc BC).mono ?_; rintro e w4 ⟨rfl, hb4⟩
      have B4 := BC.trans (hb4.mono BC.size)
      have y0 := ((bcell hb4).1 _ 0 zWc0).trans yWc0_0
      have y1 := ((bcell hb4).1 _ 1 zWc0).trans yWc0_1
      have z4 := Nat.lt_of_lt_of_le zWc0 hb4.size
      have HO4 := Lib.hid (ownB (ownB hO.out BWc (Nat.le_refl _)) hb4 (Nat.le_refl _))
      have hz4 := B4.size
      clear x1 x2 hb4 yWc0_0 yWc0_1 fWc0 eWc BWc zWc0 BC hO KPk
      by_cases hm2 : pl = q
      · have HK1 := Lib.hid (HIO.out.1 hm2)
        subst hm2
        clear HIO
        have HBU := Lib.hid (Below.alloc B4 hz4 (.cells #[.int .i64 q1, .int .i64 q2] 38))
        have HO5 := Lib.hid (HO4.out.alloc (.cells #[.int .i64 q1, .int .i64 q2] 38))
        have hz5 := HBU.out.size
        go_wp2_with (at_builtin; refine wpList_append_own_at _ rfl (.tmp 21) (.tmp 23) 25 rfl w.heap.size 38 i0 (.agg #[.int .i64 0, .int .i64 0]) 2 16 Try.underlying25 HI.out.1 HI.out.2.1 HI.out.2.2.1 HI.out.2.2.2 rfl (by decide) v Jk.length (flat Jk) rfl HO5.out ⟨w4.heap.size, 0, none⟩ 1 1 [.int .i64 q1, .int .i64 q2] rfl rfl (two_cells (by go_simp) (by go_simp)) (two_one _ _) (by unfold maxLen; omega) (by omega) hz5 ?_)
        intro v' w9 own9 hgr9 _ hat
        have B9 := HBU.out.grown hgr9 HBU.out.size (fun g hg => (World.ownsRow.lt HO5.out g hg).1)
        have HO9 : Hid (w9.ownsRow w.heap.size 38 2 v' (PK (k + 1)).length (flat (PK (k + 1)))) := Lib.hid (by
          rw [HK1.out, flat_snoc, List.length_append]
          exact own9)
        clear own9 hgr9 hat HBU HO5 HO4
        go_wp2_with fail
        go_roundg (n - (k + 1))
        case measure => have := HGK.out; omega
        case rel => exact ⟨k + 1, v', rfl, by omega, rfl, by go_num, B9, HO9⟩
      · have HK1 := Lib.hid (HIO.out.2 hm2)
        clear HIO
        go_wp2_with fail
        go_roundg (n - (k + 1))
        case measure => have := HGK.out; omega
        case rel => exact ⟨k + 1, v, rfl, by omega, rfl, by go_num, B4, Lib.hid (by rw [HK1.out]; exact HO4.out)⟩
    · have hkn : k = n := by omega
      subst hkn
      have HO := Lib.hid (show wo.ownsRow w.heap.size 38 2 v res.length (flat res) from by rw [HE.out]; exact hO.out)
      clear hO
      go_wp2_with fail
      go_ret
      exact ⟨⟨_, rfl, HO.out⟩, hB⟩
theorem on_sorted {r : List (Int × Int)} (hs : r.Pairwise lxP) : r.filter (atF (band r) 0) = onL r := by
  have := filter_at_zero r
  rw [srt_self hs] at this
  exact this
theorem off_sorted1 {r : List (Int × Int)} (hd : Dif r) (hs : r.Pairwise lxP) : r.filter (atF (band r) 1) = offL r := by
  have := filter_at_one hd
  rw [srt_self hs] at this
  exact this
theorem lay_start {l : List (Int × Int)} (hd : Dif l) : [] ++ layF l.length (srt l) = layers l := by
  have h1 := hd.few.1
  obtain ⟨f, hf⟩ : ∃ f, l.length = f + 1 := ⟨l.length - 1, by omega⟩
  unfold layers
  rw [List.nil_append, hf]
  exact lay_srt hd f
theorem rd_of_own {w : World} {base k cx : Nat} {X : Option Addr} {m : List (Int × Int)} (h : w.ownsRow base 38 2 (.slice X k cx) k (flat m)) (hm : m.length = k) : Rd w w.heap.size X m := by
  subst hm
  obtain ⟨A, c, hv, _, _, hr⟩ := rw_of_own h
  injection hv with h1 h2 h3
  subst h1
  exact rd_more (rw_rd hr) (Nat.le_refl _)
/-- a call that gives lists of points and says whether there are such -/
def RetLL (w : World) (LL : List (List (Int × Int))) (b : Bool) (e : Ending) (w' : World) : Prop :=
  (∃ v cs, e = .returned (.tuple #[v, .bool b]) ∧ RowsL w' w.heap.size v LL cs) ∧ Below w.heap.size w w'
set_option maxHeartbeats 8000000 in
theorem layersOf_yes (A : Option Addr) (c : Nat) (l : List (Int × Int)) (w : World) (hn : l.length ≤ 1048576) (hcap : l.length ≤ c) (hc2 : c ≤ 9223372036854775807) (hd : Dif l) (hR : Rd w w.heap.size A l)
    (KI : ∀ W, Below w.heap.size w W → Calls Try.prog 68 #[.slice A l.length c] W fun e w' => (∃ g cap, e = .returned (.slice (some ⟨g, 0, none⟩) l.length cap) ∧ w'.ownsRow W.heap.size 38 2 (.slice (some ⟨g, 0, none⟩) l.length cap) l.length (flat (srt l))) ∧ Below W.heap.size W w') :
    Calls Try.prog 40 #[.slice A l.length c] w (RetLL w (layers l) true) := by
  obtain ⟨i0, hi0, hz0, hz1, hz2⟩ := info_parts3 pegs_info
  have HI := Lib.hid (And.intro hi0 (And.intro hz0 (And.intro hz1 hz2)))
  have hn30 : l.length ≤ 30 := hd.few.2
  have hn1 : 1 ≤ l.length := hd.few.1
  have K := Lib.hid (implAreDifferent_any A c l w hn hcap hc2 hR)
  rw [difB_true hd] at K
  have KO := Lib.hid KI
  have HS : Hid (Dif (srt l) ∧ (srt l).Pairwise lxP ∧ ([] ++ layF l.length (srt l) = layers l)) := Lib.hid ⟨srt_dif hd, srt_sorted (dif_nodup hd), lay_start hd⟩
  have HSL := Lib.hid (srt_len l)
  clear hR hd hi0 hz0 hz1 hz2 KI
  generalize srt l = s0 at *
  go_enter Try.func40, Try.ntmps40
  go_wp2_with fail
  refine K.out.mono ?_; rintro e w1 ⟨rfl, hb1⟩
  go_wp2_with fail
  refine (KO.out w1 hb1).mono ?_; rintro e w2 ⟨⟨g0, cap0, rfl, ho⟩, hb2⟩
  have B2 := hb1.trans (hb2.mono hb1.size)
  have HRS := Lib.hid (own_base ho hb1.size)
  have HNIL := Lib.hid (rowsL_nil w2 w.heap.size)
  clear ho hb1 hb2 K KO
  go_wp2_with fail
  go_loopg [4, 5] l.length (fun g o4 o5 wr => ∃ (r : List (Int × Int)) (X : Option Addr) (cx k : Nat) (LL : List (List (Int × Int))) (cs : List Value) (f : Nat) (ov : Value), ov = o4 ∧ o5 = .slice X k cx ∧ g = k ∧ LL.length + k ≤ l.length ∧ Below w.heap.size w wr ∧ Hid (r.length = k ∧ (0 < k → Dif r) ∧ RowsL wr w.heap.size ov LL cs ∧ wr.ownsRow w.heap.size 38 2 (.slice X k cx) k (flat r) ∧ LL ++ layF f r = layers l ∧ k ≤ f ∧ r.Pairwise lxP))
  case atStart => exact ⟨s0, _, _, l.length, [], [], l.length, _, rfl, rfl, rfl, by simp, B2, Lib.hid ⟨HSL.out, fun _ => HS.out.1, HNIL.out, HRS.out, HS.out.2.2, Nat.le_refl _, HS.out.2.1⟩⟩
  case round =>
    clear B2 HRS HNIL
    obtain ⟨r, X, cx, k, LL, cs, f, o4, rfl, rfl, hg, hll, hB, hH⟩ := hrel
    rename World => wo
    have HGK := Lib.hid hg
    clear hg HS HSL
    by_cases h0 : 0 < k
    · have hkr := hH.out.1
      have hd := hH.out.2.1 h0
      have hsr := hH.out.2.2.2.2.2.2
      have HOR := Lib.hid hH.out.2.2.2.1
      have KB := Lib.hid (bandI_any X cx k r wo hkr hd (rd_of_own HOR.out hkr))
      have hbp := band_pos hd
      have hbf := band_few hd
      have KP0 := Lib.hid (fun Y cY W (hr : Rd W W.heap.size X r) (h : Rd W W.heap.size Y (band r)) => (pegsAt_any X cx k r Y cY (band r).length (band r) 0 W hkr (by omega) (dif_pegs hd) hr rfl hbp hbf (band_pegs hd) h).mono fun e w' hh => (show (∃ v, e = .returned v ∧ w'.ownsRow W.heap.size 38 2 v (onL r).length (flat (onL r))) ∧ Below W.heap.size W w' from by rw [on_sorted hsr] at hh; exact hh))
      have KP1 := Lib.hid (fun Y cY W (hr : Rd W W.heap.size X r) (h : Rd W W.heap.size Y (band r)) => (pegsAt_any X cx k r Y cY (band r).length (band r) 1 W hkr (by omega) (dif_pegs hd) hr rfl hbp hbf (band_pegs hd) h).mono fun e w' hh => (show (∃ v, e = .returned v ∧ w'.ownsRow W.heap.size 38 2 v (offL r).length (flat (offL r))) ∧ Below W.heap.size W w' from by rw [off_sorted1 hd hsr] at hh; exact hh))
      have HLT : Hid ((offL r).length < k) := Lib.hid (by rw [← hkr]; exact off_lt hd)
      have HON := Lib.hid (on_pos hd)
      have HOF := Lib.hid (off_dif hd)
      have HSO := Lib.hid (off_sorted (dif_nodup hd))
      have HST := Lib.hid (lay_step hH.out.2.2.2.2.1 (by rw [hkr]; exact hH.out.2.2.2.2.2.1) (by omega))
      have HFU := Lib.hid hH.out.2.2.2.2.2.1
      have HRW := Lib.hid hH.out.2.2.1
      have HRL := Lib.hid (rowsL_lt hH.out.2.2.1)
      have HKR := Lib.hid hkr
      clear hd hH hkr hsr hbf
      have hzB := hB.size
      generalize band r = H at *
      have hk1 : (0 : Int) < (k : Int) := by omega
      go_wp2_with fail
      refine KB.out.mono ?_; rintro e w3 ⟨⟨vh, rfl, hoh⟩, hb3⟩
      obtain ⟨Y, cY, rfl, _, _, _⟩ := rw_of_own hoh
      have B3 := hB.trans (hb3.mono hzB)
      have HOH := Lib.hid (own_base hoh hzB)
      have hb3s := Lib.hid hb3.size
      have HR3 := Lib.hid (rowsL_below HRW.out hb3 (Nat.le_refl _))
      have HO3 := Lib.hid (ownB HOR.out hb3 (Nat.le_refl _))
      clear hoh KB HRW hb3 HOR
      go_wp2_with fail
      refine (KP0.out Y cY w3 (rd_of_own HO3.out HKR.out) (rd_of_own HOH.out rfl)).mono ?_; rintro e w4 ⟨⟨v1, rfl, ho1⟩, hb4⟩
      obtain ⟨g1, c1, rfl, _, _, _⟩ := rd_own ho1 HON.out
      have B4 := B3.trans (hb4.mono B3.size)
      have hz4 := B4.size
      have HO1 := Lib.hid (own_base ho1 B3.size)
      have hz3 := hb3s.out
      have HUP := Lib.hid (fun b hb => Nat.le_trans hz3 (World.ownsRow.lt ho1 b hb).1)
      clear hz3
      have HR4 := Lib.hid (rowsL_below HR3.out hb4 (Nat.le_refl _))
      have HO4 := Lib.hid (ownB HO3.out hb4 (Nat.le_refl _))
      have HH4 := Lib.hid (ownB HOH.out hb4 (Nat.le_refl _))
      clear ho1 hb4 HR3 HO3 HOH KP0 B3
      generalize hm1 : (onL r).length = m1 at *
      have HM1 := Lib.hid hm1
      clear hm1
      have HBU := Lib.hid (Below.alloc B4 hz4 (.cells #[.slice (some ⟨g1, 0, none⟩) m1 c1] 25))
      have HR5 := Lib.hid (rowsL_alloc HR4.out (.cells #[.slice (some ⟨g1, 0, none⟩) m1 c1] 25))
      have HP1 := Lib.hid (HO1.out.alloc (.cells #[.slice (some ⟨g1, 0, none⟩) m1 c1] 25))
      have HO5 := Lib.hid (HO4.out.alloc (.cells #[.slice (some ⟨g1, 0, none⟩) m1 c1] 25))
      have HH5 := Lib.hid (HH4.out.alloc (.cells #[.slice (some ⟨g1, 0, none⟩) m1 c1] 25))
      have hz5 := HBU.out.size
      clear HR4 HO1 B4 HO4 HH4
      go_wp2_with (at_builtin; refine wpList_append_own_at _ rfl (.tmp 17) (.tmp 21) 44 rfl w.heap.size 25 i0 (.slice none 0 0) 1 24 Try.underlying44 HI.out.1 HI.out.2.1 HI.out.2.2.1 HI.out.2.2.2 rfl (by decide) o4 LL.length cs rfl HR5.out.1 ⟨w4.heap.size, 0, none⟩ 1 1 [.slice (some ⟨g1, 0, none⟩) m1 c1] rfl rfl (one_cells (by go_simp)) (one_slice _ _ _) (by unfold maxLen; omega) (by omega) hz5 ?_)
      intro v' w9 own9 hgr9 _ hat
      have B9 := HBU.out.grown hgr9 HBU.out.size (fun g hg => (World.ownsRow.lt HR5.out.1 g hg).1)
      have HR9 := Lib.hid (rowsL_push (m := onL r) (u := .slice (some ⟨g1, 0, none⟩) m1 c1) HR5.out (by rw [HM1.out]; exact HP1.out) own9 hgr9 wo.heap.size HRL.out HUP.out)
      have HO9 := Lib.hid (HO5.out.kept hgr9 (own_diff HO5.out HR5.out.1 (by decide)))
      have HH9 := Lib.hid (HH5.out.kept hgr9 (own_diff HH5.out HR5.out.1 (by decide)))
      clear own9 hgr9 hat HBU HR5 HP1 HO5 HH5
      go_wp2_with fail
      refine (KP1.out Y cY w9 (rd_of_own HO9.out HKR.out) (rd_of_own HH9.out rfl)).mono ?_; rintro e w10 ⟨⟨v2, rfl, ho2⟩, hb10⟩
      obtain ⟨X2, c2, rfl, _, _, _⟩ := rw_of_own ho2
      have B10 := B9.trans (hb10.mono B9.size)
      have HR10 := Lib.hid (rowsL_below HR9.out hb10 (Nat.le_refl _))
      have HO10 := Lib.hid (own_base ho2 B9.size)
      clear ho2 hb10 HR9 HO9 HH9 B9
      go_wp2_with fail
      go_roundg (offL r).length
      case measure => have := HGK.out; have := HLT.out; omega
      case rel =>
        obtain ⟨f', hf', hst⟩ := HST.out
        exact ⟨offL r, X2, c2, (offL r).length, LL ++ [onL r], _, f', _, rfl, rfl, rfl, by rw [List.length_append]; have := HLT.out; simp; omega, B10, Lib.hid ⟨rfl, HOF.out, HR10.out, HO10.out, hst, by have := HLT.out; have := HFU.out; omega, HSO.out⟩⟩
    · have hr0 : k = 0 := by omega
      have HE := Lib.hid (show RowsL wo w.heap.size o4 (layers l) cs from by rw [← lay_stop hH.out.2.2.2.2.1 (by have := hH.out.1; omega)]; exact hH.out.2.2.1)
      clear hH
      subst hr0
      go_wp2_with fail
      go_ret2
      exact ⟨⟨_, _, rfl, HE.out⟩, hB⟩
set_option maxHeartbeats 8000000 in
theorem implLayerOfPeg_yes (A : Option Addr) (c : Nat) (l : List (Int × Int)) (p1 p2 : Int) (w : World) (hd : Dif l) (KI : ∀ W, Below w.heap.size w W → Calls Try.prog 40 #[.slice A l.length c] W (RetLL W (layers l) true)) :
    Calls Try.prog 45 #[.slice A l.length c, .agg #[.int .i64 p1, .int .i64 p2]] w fun e w' => e = .returned (.tuple #[.int .i64 (lvI l p1 p2), .bool (lvB l p1 p2)]) ∧ Below w.heap.size w w' := by
  have KL := Lib.hid KI
  have HRES0 : Hid (lopF (p1, p2) ((layers l).drop 0) 0 = (lvI l p1 p2, lvB l p1 p2)) := Lib.hid (by unfold lvI lvB; rw [difB_true hd]; rfl)
  have HFEW0 : Hid (∀ m ∈ layers l, m.length ≤ 1048576) := Lib.hid (fun m hm => by have := lay_len _ _ _ hm; have := hd.few; omega)
  have HNE0 : Hid (∀ m ∈ layers l, 0 < m.length) := Lib.hid (lay_ne _ _ (fun _ => hd))
  have HPOS0 : Hid (0 < (layers l).length) := Lib.hid (lay_pos hd)
  have HLE0 : Hid ((layers l).length ≤ 30) := Lib.hid (by have := lay_few l.length l; have := hd.few; unfold layers; omega)
  clear hd KI
  generalize lvI l p1 p2 = r1 at *
  generalize lvB l p1 p2 = r2 at *
  generalize layers l = LL at *
  go_enter Try.func45, Try.ntmps45
  go_wp2_with fail
  obtain ⟨W1, hW1⟩ : ∃ W1, W1 = (w.alloc (.cells #[.int .i64 p1, .int .i64 p2] 38)) := ⟨_, rfl⟩
  rw [← hW1]
  have yW10_0 : W1.cell? ⟨w.heap.size, 0, none⟩ = some (.int .i64 p1) := by rw [hW1]; go_simp
  have yW10_1 : W1.cell? ⟨w.heap.size, 1, none⟩ = some (.int .i64 p2) := by rw [hW1]; go_simp
  have fW10 : ∀ o, W1.frozen? ⟨w.heap.size, o, none⟩ = false := by intro o; rw [hW1]; (repeat rw [frozen?_alloc_cells]); simp [World.frozen?]
  have zW10 : w.heap.size < W1.heap.size := by rw [hW1]; simp <;> omega
  have BW1 : Below w.heap.size w W1 := by rw [hW1]; exact (Below.alloc (Below.refl _ _) (by simp <;> omega) _)
  have eW1 : Hid (W1.heap.size = w.heap.size + 1) := Lib.hid (by rw [hW1]; simp)
  clear hW1
  refine (KL.out W1 BW1).mono ?_; rintro e w4 ⟨⟨v, cs, rfl, hrow⟩, hb4⟩
  have B4 := BW1.trans (hb4.mono BW1.size)
  have y0 := ((bcell hb4).1 _ 0 zW10).trans yW10_0
  have y1 := ((bcell hb4).1 _ 1 zW10).trans yW10_1
  have z4 := Nat.lt_of_lt_of_le zW10 hb4.size
  have HTR := Lib.hid B4
  clear hb4 yW10_0 yW10_1 fW10 eW1 zW10 BW1 B4 KL
  rcases own_val hrow.1 with ⟨_, h0⟩ | ⟨g, cap, rfl, _, _, _, _⟩
  · have := HPOS0.out; omega
  have HROW := Lib.hid hrow
  clear hrow
  have hn30 := HLE0.out
  generalize hnl : LL.length = n at *
  have HNL := Lib.hid hnl
  have HRES := HRES0
  have HFEW := HFEW0
  have HNE := HNE0
  clear hnl HRES0 HFEW0 HNE0 HPOS0 HLE0
  have HY := Lib.hid y0
  have HY1 := Lib.hid y1
  clear y0 y1
  go_wp2_with fail
  go_loopg [17] n (fun g i wr => ∃ k : Nat, k ≤ n ∧ g = n - k ∧ i = .int .i64 k ∧ Below w4.heap.size w4 wr ∧ Hid (lopF (p1, p2) (LL.drop k) k = (r1, r2)))
  case atStart => exact ⟨0, Nat.zero_le _, rfl, rfl, Below.refl _ _, HRES⟩
  case round =>
    obtain ⟨k, hk, hg, rfl, hB, hF⟩ := hrel
    rename World => wo
    have HGK := Lib.hid hg
    clear hg
    by_cases hlt : k < n
    · have HRo := Lib.hid (rowsL_below HROW.out hB (Nat.le_refl _))
      obtain ⟨m, gi, ci, hm, hcm, hrd, hgw⟩ := rowsL_read HRo.out HNL.out HNE.out k hlt
      have KHk := Lib.hid (contains_any (some ⟨gi, 0, none⟩) ci m.length m (p1, p2) wo rfl (HFEW.out m (List.mem_of_getElem? hm)) hrd)
      have HLA := Lib.hid (lop_at (p := (p1, p2)) hm)
      have hc := (bcell hB).1
      have x0 := (hc _ 0 z4).trans HY.out
      have x1 := (hc _ 1 z4).trans HY1.out
      have hzB := hB.size
      have zo : w.heap.size < wo.heap.size := by omega
      clear hrd hm hc HRo
      generalize m.length = lm at *
      go_wp2_with fail
      refine KHk.out.mono ?_; rintro e w5 ⟨rfl, hb5⟩
      have B5 := hB.trans (hb5.mono hB.size)
      clear x0 x1 hb5 KHk hcm
      by_cases hpm : (p1, p2) ∈ m
      · rw [decide_eq_true hpm]
        have HR1 : Hid ((r1, r2) = ((k : Int) + 1, true)) := Lib.hid (by rw [← hF.out, HLA.out, if_pos hpm])
        have HBB := Lib.hid (HTR.out.trans (B5.mono HTR.out.size))
        have hw : IntKind.i64.wrap ((k : Int) + 1) = (k : Int) + 1 := IntWalk.i64_in _ (by omega)
        clear hpm HLA
        have e1 : r1 = (k : Int) + 1 := (Prod.mk.inj HR1.out).1
        have e2 : r2 = true := (Prod.mk.inj HR1.out).2
        subst e1; subst e2
        go_wp2_with fail
        go_ret2
        exact ⟨rfl, HBB.out⟩
      · rw [decide_eq_false hpm]
        have HR1 : Hid (lopF (p1, p2) (LL.drop (k + 1)) (k + 1) = (r1, r2)) := Lib.hid (by rw [← hF.out, HLA.out, if_neg hpm])
        clear hpm HLA hF
        go_wp2_with fail
        go_roundg (n - (k + 1))
        case measure => have := HGK.out; omega
        case rel => exact ⟨k + 1, by omega, rfl, by go_num, B5, HR1⟩
    · have hkn : k = n := by omega
      subst hkn
      have HR1 : Hid ((r1, r2) = ((0 : Int), false)) := Lib.hid (by rw [← hF.out, ← HNL.out]; exact lop_end)
      have HBB := Lib.hid (HTR.out.trans (hB.mono HTR.out.size))
      have e1 : r1 = 0 := (Prod.mk.inj HR1.out).1
      have e2 : r2 = false := (Prod.mk.inj HR1.out).2
      subst e1; subst e2
      clear hF
      go_wp2_with fail
      go_ret2
      exact ⟨rfl, HBB.out⟩
theorem implLayerOfPeg_no (A : Option Addr) (c : Nat) (l : List (Int × Int)) (p1 p2 : Int) (w : World) (hd : ¬ Dif l) (KI : ∀ W, Below w.heap.size w W → Calls Try.prog 40 #[.slice A l.length c] W fun e w' => e = .returned (.tuple #[.slice none 0 0, .bool false]) ∧ Below W.heap.size W w') :
    Calls Try.prog 45 #[.slice A l.length c, .agg #[.int .i64 p1, .int .i64 p2]] w fun e w' => e = .returned (.tuple #[.int .i64 (lvI l p1 p2), .bool (lvB l p1 p2)]) ∧ Below w.heap.size w w' := by
  have KL := Lib.hid KI
  have e1 : lvI l p1 p2 = 0 := by unfold lvI; rw [difB_false hd]; rfl
  have e2 : lvB l p1 p2 = false := by unfold lvB; rw [difB_false hd]; rfl
  rw [e1, e2]
  clear hd KI e1 e2
  go_enter Try.func45, Try.ntmps45
  go_wp2_with fail
  obtain ⟨W1, hW1⟩ : ∃ W1, W1 = (w.alloc (.cells #[.int .i64 p1, .int .i64 p2] 38)) := ⟨_, rfl⟩
  rw [← hW1]
  have yW10_0 : W1.cell? ⟨w.heap.size, 0, none⟩ = some (.int .i64 p1) := by rw [hW1]; go_simp
  have yW10_1 : W1.cell? ⟨w.heap.size, 1, none⟩ = some (.int .i64 p2) := by rw [hW1]; go_simp
  have fW10 : ∀ o, W1.frozen? ⟨w.heap.size, o, none⟩ = false := by intro o; rw [hW1]; (repeat rw [frozen?_alloc_cells]); simp [World.frozen?]
  have zW10 : w.heap.size < W1.heap.size := by rw [hW1]; simp <;> omega
  have BW1 : Below w.heap.size w W1 := by rw [hW1]; exact (Below.alloc (Below.refl _ _) (by simp <;> omega) _)
  have eW1 : Hid (W1.heap.size = w.heap.size + 1) := Lib.hid (by rw [hW1]; simp)
  clear hW1
  refine (KL.out W1 BW1).mono ?_; rintro e w4 ⟨rfl, hb4⟩
  have B4 := BW1.trans (hb4.mono BW1.size)
  clear hb4 yW10_0 yW10_1 fW10 eW1 zW10 BW1 KL
  go_wp2_with fail
  go_loopg [17] 0 (fun g i wr => g = 0 ∧ i = .int .i64 0 ∧ Below w.heap.size w wr)
  case atStart => exact ⟨rfl, rfl, B4⟩
  case round =>
    obtain ⟨hg, rfl, hB⟩ := hrel
    go_wp2_with fail
    go_ret2
    exact ⟨rfl, hB⟩
end Go.Proofs.Ythpbnfmfedggjaa
