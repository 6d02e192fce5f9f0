/- The law FnExactAddClue returns true at every number, every list of clues, whatever its length and numbers, and every clue, and changes nothing: the program tells a puzzle with one clue more as its model does, in new memory. -/
import Derived.Test.YtacabmbajadbgaaZAddClue4
import Derived.Deep.CutRange
import Derived.Deep.RegionWith
import Derived.Deep.DeepMust
import Derived.Deep.RegionHeld3
namespace Go.Proofs.Ytacabmbajadbgaa
open Go.ChangeShapes Go.WideShapes Go.ChangeAt Go.RowKit Go.Joins
set_option linter.unusedVariables false
set_option linter.unusedSimpArgs false
set_option maxRecDepth 4000
open Go.Deep
theorem fineP : Try.prog.readableRec 24 = true ∧ 24 < Try.prog.types.size := ⟨by kernel_rfl, of_decide_eq_true (by kernel_rfl)⟩
theorem fineC : Try.prog.readableRec 36 = true ∧ 36 < Try.prog.types.size := ⟨by kernel_rfl, of_decide_eq_true (by kernel_rfl)⟩
set_option maxHeartbeats 12000000 in
theorem addClue_walk (s : Int) (A : Option Addr) (c n : Nat) (f : Nat → Int) (d0 d1 d2 d3 : Int) (w : World) (hc1 : n ≤ c) (hm1 : c ≤ 9223372036854775807) (hR : RdI w w.heap.size A (n * 4) f) :
    Calls Try.prog 4 #[.agg #[.int .i64 s, .slice A n c], .agg #[.int .i64 d0, .int .i64 d1, .int .i64 d2, .int .i64 d3]] w fun e w' => e = .returned (.bool true) ∧ Below w.heap.size w w' := by
  have KZ := Lib.hid (fun W => szPuzzle_any s A n c W (by omega))
  have HB := Lib.hid (Below.alloc (Below.alloc (Below.refl w.heap.size w) (Nat.le_refl _) (.cells #[.int .i64 s, .slice A n c] 24)) (by simp) (.cells #[.int .i64 d0, .int .i64 d1, .int .i64 d2, .int .i64 d3] 36))
  by_cases hbig : (n : Int) ≤ 1048576
  · rw [if_pos hbig] at KZ
    have hz : ¬ (1048576 : Int) - n < 0 := by omega
    have hn : n ≤ 1048576 := by omega
    have hm : (acN s n f d0 d1 d2 d3) ≤ 1048576 := by 
      unfold acN
      split
      · next h => have := (puzB_t (s := s) (n := n) (f := f) (by unfold acB at h; simp at h; exact h.1)).2.2.1; omega
      · omega
    have KT := Lib.hid (fun W (hb : Below w.heap.size w W) => toPuzzle_any s A c n f W hn (rdi_below hR hb (Nat.le_refl _)))
    have KS := Lib.hid (fun W g (h : Nib W g (n * 4) f) => specAddClue_any s g 0 n n f d0 d1 d2 d3 W hn (Nat.le_refl _) (by omega) (nib_rd h))
    have KI := Lib.hid (fun W g (h : Nib W g (n * 4) f) => implAddClue_any s g 0 n n f d0 d1 d2 d3 W hn (Nat.le_refl _) (by omega) (nib_rd h))
    have KE := Lib.hid (fun W g g' (h : Nib W g (n * 4) f) (h' : Nib W g' (n * 4) f) => eqPuzzle_same s (some ⟨g, 0, none⟩) (some ⟨g', 0, none⟩) n n n f W hn (nib_rd h) (nib_rd h'))
    have KM := Lib.hid (fun W g (h : Nib W g (n * 4) f) => markPuzzle_any s (some ⟨g, 0, none⟩) n n g (g + 1) f W hn h.z h.r)
    have KQ := Lib.hid (fun W A A' c c' lo B lo' B' (h : RwI W lo B A ((acN s n f d0 d1 d2 d3) * 4) (acF f n d0 d1 d2 d3)) (hB : B ≤ W.heap.size) (h' : RwI W lo' B' A' ((acN s n f d0 d1 d2 d3) * 4) (acF f n d0 d1 d2 d3)) (hB' : B' ≤ W.heap.size) => eqPuzzle_same (acS s n f d0 d1 d2 d3) A A' c c' (acN s n f d0 d1 d2 d3) (acF f n d0 d1 d2 d3) W hm (rdi_of_rw h hB) (rdi_of_rw h' hB'))
    have KN := Lib.hid (fun W lo B A c (hB : B ≤ W.heap.size) h => markPuzzle_any (acS s n f d0 d1 d2 d3) A c (acN s n f d0 d1 d2 d3) lo B (acF f n d0 d1 d2 d3) W hm hB h)
    have KH := Lib.hid (fun W lo B A c (hB : B ≤ W.heap.size) h => heldPuzzle_any (acS s n f d0 d1 d2 d3) A c (acN s n f d0 d1 d2 d3) lo B W hm hB h)
    clear hR hc1 hm1 hbig hn
    generalize (acF f n d0 d1 d2 d3) = F at *
    generalize (acN s n f d0 d1 d2 d3) = p at *
    generalize (acS s n f d0 d1 d2 d3) = S at *
    generalize (acB s n f d0 d1 d2 d3) = gb at *
    go_enter Try.func4, Try.ntmps4
    go_wp2_with fail
    refine (KZ.out _).mono ?_; rintro e w0 ⟨rfl, hb0⟩
    have B0 := HB.out.trans (hb0.mono HB.out.size)
    have P0 := Lib.hid (pbx_below (pbx_below (pbx_new w s A n c 24) (Below.alloc (Below.refl _ _) (Nat.le_refl _) _)) hb0)
    have C0 := Lib.hid (cl4_below (cl4_new (w.alloc (.cells #[.int .i64 s, .slice A n c] 24)) d0 d1 d2 d3 36 (q := w.heap.size + 1) (by simp)) hb0)
    clear hb0 KZ HB
    have hlw : w.heap.size + 1 < w0.heap.size := C0.out.z
    have y0 := P0.out.c0
    have y1 := P0.out.c1
    have yz := P0.out.z
    have c0' := C0.out.c0
    have c1' := C0.out.c1
    have c2' := C0.out.c2
    have c3' := C0.out.c3
    have cz' := C0.out.z
    have SK : Hid (∀ W', Below w0.heap.size w0 W' → W'.cell? ⟨w.heap.size, 0, none⟩ = some (.int .i64 s) ∧ W'.cell? ⟨w.heap.size, 1, none⟩ = some (.slice A n c) ∧ W'.cell? ⟨w.heap.size + 1, 0, none⟩ = some (.int .i64 d0) ∧ W'.cell? ⟨w.heap.size + 1, 1, none⟩ = some (.int .i64 d1) ∧ W'.cell? ⟨w.heap.size + 1, 2, none⟩ = some (.int .i64 d2) ∧ W'.cell? ⟨w.heap.size + 1, 3, none⟩ = some (.int .i64 d3)) := Lib.hid (fun W hb => ⟨((bcell hb).1 _ _ P0.out.z).trans P0.out.c0, ((bcell hb).1 _ _ P0.out.z).trans P0.out.c1, ((bcell hb).1 _ _ C0.out.z).trans C0.out.c0, ((bcell hb).1 _ _ C0.out.z).trans C0.out.c1, ((bcell hb).1 _ _ C0.out.z).trans C0.out.c2, ((bcell hb).1 _ _ C0.out.z).trans C0.out.c3⟩)
    have KC2 : Hid (∀ W, Below w0.heap.size w0 W → Calls Try.prog 23 #[.agg #[.int .i64 d0, .int .i64 d1, .int .i64 d2, .int .i64 d3]] W fun e w' => e = .returned (.agg #[.int .i64 d0, .int .i64 d1, .int .i64 d2, .int .i64 d3]) ∧ Below w0.heap.size w0 w' ∧ (∀ g N h, Nib W g N h → Nib w' g N h) ∧ ∀ q u v, Pbw W q u v → Pbw w' q u v) := Lib.hid (fun W hb => (toClue_any d0 d1 d2 d3 W).mono fun e w' h => ⟨h.1, hb.trans (h.2.mono hb.size), fun g N h' x => nib_below x h.2, fun q u v x => pbw_below x h.2⟩)
    have KA2 : Hid (∀ W g, Below w0.heap.size w0 W → Nib W g (n * 4) f → Calls Try.prog 22 #[.agg #[.int .i64 s, .slice (some ⟨g, 0, none⟩) n n], .agg #[.int .i64 d0, .int .i64 d1, .int .i64 d2, .int .i64 d3]] W fun e w' => ∃ A c lS, e = .returned (.tuple #[.agg #[.int .i64 S, .slice A p c], .bool gb]) ∧ Below w0.heap.size w0 w' ∧ w0.heap.size ≤ lS ∧ lS ≤ w'.heap.size ∧ RwI w' lS w'.heap.size A (p * 4) F ∧ lS = W.heap.size ∧ ∀ q u v, Pbw W q u v → Pbw w' q u v) := Lib.hid (fun W g hb hN => (KS.out W g hN).mono fun e w' h => by
      obtain ⟨A1, c1, rfl, hb1, hr1⟩ := h
      exact ⟨A1, c1, W.heap.size, rfl, hb.trans (hb1.mono hb.size), hb.size, hb1.size, hr1, rfl, fun q u v x => pbw_below x hb1⟩)
    have KT2 : Hid (∀ W, Below w0.heap.size w0 W → Calls Try.prog 17 #[.agg #[.int .i64 s, .slice A n c]] W fun e w' => ∃ g, e = .returned (.agg #[.int .i64 s, .slice (some ⟨g, 0, none⟩) n n]) ∧ Below w0.heap.size w0 w' ∧ Nib w' g (n * 4) f ∧ ∀ q u v, Pbw W q u v → Pbw w' q u v) := Lib.hid (fun W hb => (KT.out W (B0.trans (hb.mono B0.size))).mono fun e w' h => by
      obtain ⟨g1, rfl, hb1, _, s1⟩ := h
      exact ⟨g1, rfl, hb.trans (hb1.mono hb.size), s1, fun q u v x => pbw_below x hb1⟩)
    go_upto_region 5 with fail
    go_cut [6, 7] from 21 to 28 (fun q r wx => AcR w0 S p F gb q r wx)
    case first =>
      go_region_held3 (fun W' => W'.cell? ⟨w.heap.size, 0, none⟩ = some (.int .i64 s) ∧ W'.cell? ⟨w.heap.size, 1, none⟩ = some (.slice A n c) ∧ W'.cell? ⟨w.heap.size + 1, 0, none⟩ = some (.int .i64 d0) ∧ W'.cell? ⟨w.heap.size + 1, 1, none⟩ = some (.int .i64 d1) ∧ W'.cell? ⟨w.heap.size + 1, 2, none⟩ = some (.int .i64 d2) ∧ W'.cell? ⟨w.heap.size + 1, 3, none⟩ = some (.int .i64 d3)) (exact SK.out _ (by repeat (first | with_reducible assumption | with_reducible exact Below.refl _ _ | with_reducible apply Below.drew | ((with_reducible refine Below.setCell ?_ ?_ _); rotate_left; (first | exact Nat.le_refl _ | omega | (simp <;> omega))) | ((with_reducible refine Below.alloc ?_ ?_ _); rotate_left; (first | omega | (simp <;> omega))))))
        (first
          | (go_at_call 22; refine (KA2.out _ _ (by repeat (first | with_reducible assumption | with_reducible exact Below.refl _ _ | with_reducible apply Below.drew | ((with_reducible refine Below.setCell ?_ ?_ _); rotate_left; (first | exact Nat.le_refl _ | omega | (simp <;> omega))) | ((with_reducible refine Below.alloc ?_ ?_ _); rotate_left; (first | omega | (simp <;> omega))))) (by first | exact nA | exact nib_below nA (by repeat (first | with_reducible assumption | with_reducible exact Below.refl _ _ | with_reducible apply Below.drew | ((with_reducible refine Below.setCell ?_ ?_ _); rotate_left; (first | exact Nat.le_refl _ | omega | (simp <;> omega))) | ((with_reducible refine Below.alloc ?_ ?_ _); rotate_left; (first | omega | (simp <;> omega))))))).mono ?_; rintro e wB ⟨A1, c1, lS, rfl, kB, hl1, hl2, hr, hlW, hcar⟩; (first | (have hq := cb.z; skip) | skip); (first | (have cbz := (pbw_drew cb).z; skip) | skip); (first | (have cb := hcar _ _ _ cb) | (have cb := hcar _ _ _ (pbw_drew cb)) | (have cb := hcar _ _ _ (pbw_new _ _ _ _)) | (have cb := hcar _ _ _ (pbw_drew (pbw_new _ _ _ _))) | skip); have kBz := kB.size; (first | (have b0 := cb.c0; have b1 := cb.c1; have bz := cb.z; have bf0 := cb.fz 0; have bf1 := cb.fz 1) | skip))
          | (go_at_call 17; refine (KT2.out _ (by repeat (first | with_reducible assumption | with_reducible exact Below.refl _ _ | with_reducible apply Below.drew | ((with_reducible refine Below.setCell ?_ ?_ _); rotate_left; (first | exact Nat.le_refl _ | omega | (simp <;> omega))) | ((with_reducible refine Below.alloc ?_ ?_ _); rotate_left; (first | omega | (simp <;> omega)))))).mono ?_; rintro e wA ⟨ga, rfl, kA, nA, hcar⟩; (first | (have cb := hcar _ _ _ cb) | (have cb := hcar _ _ _ (pbw_drew cb)) | (have cb := hcar _ _ _ (pbw_new _ _ _ _)) | (have cb := hcar _ _ _ (pbw_drew (pbw_new _ _ _ _))) | skip); have kAz := kA.size)
          | (go_at_call 23; refine (KC2.out _ (by repeat (first | with_reducible assumption | with_reducible exact Below.refl _ _ | with_reducible apply Below.drew | ((with_reducible refine Below.setCell ?_ ?_ _); rotate_left; (first | exact Nat.le_refl _ | omega | (simp <;> omega))) | ((with_reducible refine Below.alloc ?_ ?_ _); rotate_left; (first | omega | (simp <;> omega)))))).mono ?_; rintro e wC ⟨rfl, kC, hcn, hcar⟩; (first | (have nA := hcn _ _ _ nA) | (have nA := hcn _ _ _ (nib_below nA ((Below.refl _ _).drew))) | (have nA := hcn _ _ _ (nib_below nA (Below.alloc (Below.refl _ _) (Nat.le_refl _) _))) | (have nA := hcn _ _ _ (nib_below nA ((Below.alloc (Below.refl _ _) (Nat.le_refl _) _).drew))) | skip); (first | (have cb := hcar _ _ _ cb) | (have cb := hcar _ _ _ (pbw_drew cb)) | (have cb := hcar _ _ _ (pbw_new _ _ _ _)) | (have cb := hcar _ _ _ (pbw_drew (pbw_new _ _ _ _))) | skip); have kCz := kC.size))
      all_goals
        go_wp2_with fail
        go_meet
        case rel =>
        first
          | exact acR_new kB hl1 hl2 hr
          | exact acR_new2 kB hl1 hl2 hr
          | exact acR_old kB hl1 hl2 hr cb (by first | exact Nat.le_refl _ | omega | (simp; done) | (simp; omega)) (by rw [hlW]; first | omega | (simp; done) | (simp; omega))
    case rest =>
    obtain ⟨bS, AS, cS, lS, uS, rfl, rfl, BC5, hbS0, hlS0, hlu, hu3, hSb, PS3, RS3⟩ := hcut
    rename World => W3
    clear y0 y1 yz c0' c1' c2' c3' cz' SK KC2 KA2 KT2
    have B3 := B0.trans (BC5.mono B0.size)
    have P3 := Lib.hid (pbx_below P0.out BC5)
    have C3 := Lib.hid (cl4_below C0.out BC5)
    clear P0 C0 B0 BC5
    have y0 := P3.out.c0
    have y1 := P3.out.c1
    have yz := P3.out.z
    go_wp2_with fail
    clear y0 y1 yz
    refine (KT.out _ B3).mono ?_; rintro e w4 ⟨g3, rfl, hb4, hg3, s4⟩
    have hbg : bS < g3 := by have := PS3.out.z; omega
    have hug : uS ≤ g3 := Nat.le_trans hu3 hg3
    have N4 := Lib.hid s4
    clear s4 hg3
    have B4 := B3.trans (hb4.mono B3.size)
    have P4 := Lib.hid (pbx_below P3.out hb4)
    have C4 := Lib.hid (cl4_below C3.out hb4)
    have PS4 := Lib.hid (pbx_below PS3.out hb4)
    have RS4 := Lib.hid (rwi_below RS3.out hb4 hu3)
    have hu4 := Nat.le_trans hu3 hb4.size
    clear P3 PS3 RS3 hu3 B3
    clear hb4
    go_wp2_with fail
    have hg3z := N4.out.z
    obtain ⟨W5, hW5⟩ : ∃ W, W = w4.alloc (.cells #[.int .i64 s, .slice (some ⟨g3, 0, none⟩) n n] 28) := ⟨_, rfl⟩
    rw [← hW5]
    have BW5 : Below w4.heap.size w4 W5 := by rw [hW5]; exact Below.alloc (Below.refl _ _) (Nat.le_refl _) _
    have PX5 := Lib.hid (show Pbx W5 w4.heap.size s ((some ⟨g3, 0, none⟩)) n n by rw [hW5]; exact pbx_new _ _ _ _ _ _)
    clear hW5
    obtain ⟨gx, hgx⟩ : ∃ g, g = w4.heap.size := ⟨_, rfl⟩
    rw [← hgx] at PX5 ⊢
    have B5 := B4.trans (BW5.mono B4.size)
    have P5 := Lib.hid (pbx_below P4.out BW5)
    have C5 := Lib.hid (cl4_below C4.out BW5)
    have PS5 := Lib.hid (pbx_below PS4.out BW5)
    have RS5 := Lib.hid (rwi_below RS4.out BW5 hu4)
    have hu5 := Nat.le_trans hu4 BW5.size
    have N5 := Lib.hid (nib_below N4.out BW5)
    clear P4 PS4 RS4 hu4 N4 B4
    have hg3x : g3 < gx := by omega
    clear hgx hg3z
    have hgx3 := PX5.out.z
    have x0 := PX5.out.c0
    have x1 := PX5.out.c1
    have xz := PX5.out.z
    have c0' := C5.out.c0
    have c1' := C5.out.c1
    have c2' := C5.out.c2
    have c3' := C5.out.c3
    have cz' := C5.out.z
    have SK : Hid (∀ W', Below W5.heap.size W5 W' → W'.cell? ⟨gx, 0, none⟩ = some (.int .i64 s) ∧ W'.cell? ⟨gx, 1, none⟩ = some (.slice (some ⟨g3, 0, none⟩) n n) ∧ W'.cell? ⟨w.heap.size + 1, 0, none⟩ = some (.int .i64 d0) ∧ W'.cell? ⟨w.heap.size + 1, 1, none⟩ = some (.int .i64 d1) ∧ W'.cell? ⟨w.heap.size + 1, 2, none⟩ = some (.int .i64 d2) ∧ W'.cell? ⟨w.heap.size + 1, 3, none⟩ = some (.int .i64 d3)) := Lib.hid (fun W hb => ⟨((bcell hb).1 _ _ PX5.out.z).trans PX5.out.c0, ((bcell hb).1 _ _ PX5.out.z).trans PX5.out.c1, ((bcell hb).1 _ _ C5.out.z).trans C5.out.c0, ((bcell hb).1 _ _ C5.out.z).trans C5.out.c1, ((bcell hb).1 _ _ C5.out.z).trans C5.out.c2, ((bcell hb).1 _ _ C5.out.z).trans C5.out.c3⟩)
    have KC2 : Hid (∀ W, Below W5.heap.size W5 W → Calls Try.prog 23 #[.agg #[.int .i64 d0, .int .i64 d1, .int .i64 d2, .int .i64 d3]] W fun e w' => e = .returned (.agg #[.int .i64 d0, .int .i64 d1, .int .i64 d2, .int .i64 d3]) ∧ Below W5.heap.size W5 w' ∧ (∀ g N h, Nib W g N h → Nib w' g N h) ∧ ∀ q u v, Pbw W q u v → Pbw w' q u v) := Lib.hid (fun W hb => (toClue_any d0 d1 d2 d3 W).mono fun e w' h => ⟨h.1, hb.trans (h.2.mono hb.size), fun g N h' x => nib_below x h.2, fun q u v x => pbw_below x h.2⟩)
    have KA2 : Hid (∀ W g, Below W5.heap.size W5 W → Nib W g (n * 4) f → Calls Try.prog 24 #[.agg #[.int .i64 s, .slice (some ⟨g, 0, none⟩) n n], .agg #[.int .i64 d0, .int .i64 d1, .int .i64 d2, .int .i64 d3]] W fun e w' => ∃ A c lS, e = .returned (.tuple #[.agg #[.int .i64 S, .slice A p c], .bool gb]) ∧ Below W5.heap.size W5 w' ∧ W5.heap.size ≤ lS ∧ lS ≤ w'.heap.size ∧ RwI w' lS w'.heap.size A (p * 4) F ∧ lS = W.heap.size ∧ ∀ q u v, Pbw W q u v → Pbw w' q u v) := Lib.hid (fun W g hb hN => (KI.out W g hN).mono fun e w' h => by
      obtain ⟨A1, c1, rfl, hb1, hr1⟩ := h
      exact ⟨A1, c1, W.heap.size, rfl, hb.trans (hb1.mono hb.size), hb.size, hb1.size, hr1, rfl, fun q u v x => pbw_below x hb1⟩)
    go_upto_region 7 with fail
    go_cut [9, 10] from 31 to 37 (fun q r wx => AcR W5 S p F gb q r wx)
    case first =>
      go_region_held3 (fun W' => W'.cell? ⟨gx, 0, none⟩ = some (.int .i64 s) ∧ W'.cell? ⟨gx, 1, none⟩ = some (.slice (some ⟨g3, 0, none⟩) n n) ∧ W'.cell? ⟨w.heap.size + 1, 0, none⟩ = some (.int .i64 d0) ∧ W'.cell? ⟨w.heap.size + 1, 1, none⟩ = some (.int .i64 d1) ∧ W'.cell? ⟨w.heap.size + 1, 2, none⟩ = some (.int .i64 d2) ∧ W'.cell? ⟨w.heap.size + 1, 3, none⟩ = some (.int .i64 d3)) (exact SK.out _ (by repeat (first | with_reducible assumption | with_reducible exact Below.refl _ _ | with_reducible apply Below.drew | ((with_reducible refine Below.setCell ?_ ?_ _); rotate_left; (first | exact Nat.le_refl _ | omega | (simp <;> omega))) | ((with_reducible refine Below.alloc ?_ ?_ _); rotate_left; (first | omega | (simp <;> omega))))))
        (first
          | (go_at_call 24; refine (KA2.out _ _ (by repeat (first | with_reducible assumption | with_reducible exact Below.refl _ _ | with_reducible apply Below.drew | ((with_reducible refine Below.setCell ?_ ?_ _); rotate_left; (first | exact Nat.le_refl _ | omega | (simp <;> omega))) | ((with_reducible refine Below.alloc ?_ ?_ _); rotate_left; (first | omega | (simp <;> omega))))) (nib_below N5.out (by repeat (first | with_reducible assumption | with_reducible exact Below.refl _ _ | with_reducible apply Below.drew | ((with_reducible refine Below.setCell ?_ ?_ _); rotate_left; (first | exact Nat.le_refl _ | omega | (simp <;> omega))) | ((with_reducible refine Below.alloc ?_ ?_ _); rotate_left; (first | omega | (simp <;> omega))))))).mono ?_; rintro e wB ⟨A1, c1, lS, rfl, kB, hl1, hl2, hr, hlW, hcar⟩; (first | (have hq := cb.z; skip) | skip); (first | (have cbz := (pbw_drew cb).z; skip) | skip); (first | (have cb := hcar _ _ _ cb) | (have cb := hcar _ _ _ (pbw_drew cb)) | (have cb := hcar _ _ _ (pbw_new _ _ _ _)) | (have cb := hcar _ _ _ (pbw_drew (pbw_new _ _ _ _))) | skip); have kBz := kB.size; (first | (have b0 := cb.c0; have b1 := cb.c1; have bz := cb.z; have bf0 := cb.fz 0; have bf1 := cb.fz 1) | skip))
          | (go_at_call 23; refine (KC2.out _ (by repeat (first | with_reducible assumption | with_reducible exact Below.refl _ _ | with_reducible apply Below.drew | ((with_reducible refine Below.setCell ?_ ?_ _); rotate_left; (first | exact Nat.le_refl _ | omega | (simp <;> omega))) | ((with_reducible refine Below.alloc ?_ ?_ _); rotate_left; (first | omega | (simp <;> omega)))))).mono ?_; rintro e wC ⟨rfl, kC, hcn, hcar⟩; (first | (have cb := hcar _ _ _ cb) | (have cb := hcar _ _ _ (pbw_drew cb)) | (have cb := hcar _ _ _ (pbw_new _ _ _ _)) | (have cb := hcar _ _ _ (pbw_drew (pbw_new _ _ _ _))) | skip); have kCz := kC.size))
      all_goals
        go_wp2_with fail
        go_meet
        case rel =>
        first
          | exact acR_new kB hl1 hl2 hr
          | exact acR_new2 kB hl1 hl2 hr
          | exact acR_old kB hl1 hl2 hr cb (by first | exact Nat.le_refl _ | omega | (simp; done) | (simp; omega)) (by rw [hlW]; first | omega | (simp; done) | (simp; omega))
    case rest =>
    obtain ⟨bG, AG, cG, lG, uG, rfl, rfl, BC7, hbG0, hlG0, hlu3, hv7, hGb, PG7, RG7⟩ := hcut
    rename World => W7
    have hgl : gx < lG := by omega
    have hgxb : gx < bG := by omega
    clear x0 x1 xz c0' c1' c2' c3' cz' SK KC2 KA2 hgx3
    have B7 := B5.trans (BC7.mono B5.size)
    have P7 := Lib.hid (pbx_below P5.out BC7)
    have C7 := Lib.hid (cl4_below C5.out BC7)
    have PS7 := Lib.hid (pbx_below PS5.out BC7)
    have RS7 := Lib.hid (rwi_below RS5.out BC7 hu5)
    have hu7 := Nat.le_trans hu5 BC7.size
    have N7 := Lib.hid (nib_below N5.out BC7)
    have PX7 := Lib.hid (pbx_below PX5.out BC7)
    clear P5 C5 PS5 RS5 hu5 N5 PX5 B5 BC7
    have a0 := PG7.out.c0
    have a1 := PG7.out.c1
    have az := PG7.out.z
    have dd0 := PS7.out.c0
    have dd1 := PS7.out.c1
    have ddz := PS7.out.z
    go_wp2_with fail
    clear a0 a1 az dd0 dd1 ddz
    refine (KQ.out W7 _ _ _ _ _ _ _ _ RG7.out hv7 RS7.out hu7).mono ?_; rintro e w8 ⟨rfl, hb8⟩
    have B8 := B7.trans (hb8.mono B7.size)
    have P8 := Lib.hid (pbx_below P7.out hb8)
    have C8 := Lib.hid (cl4_below C7.out hb8)
    have PS8 := Lib.hid (pbx_below PS7.out hb8)
    have RS8 := Lib.hid (rwi_below RS7.out hb8 hu7)
    have hu8 := Nat.le_trans hu7 hb8.size
    have N8 := Lib.hid (nib_below N7.out hb8)
    have PX8 := Lib.hid (pbx_below PX7.out hb8)
    have RG8 := Lib.hid (rwi_below RG7.out hb8 hv7)
    have hv8 := Nat.le_trans hv7 hb8.size
    have PG8 := Lib.hid (pbx_below PG7.out hb8)
    clear P7 PS7 RS7 hu7 N7 PX7 RG7 hv7 PG7 B7
    clear hb8
    have x0' := PX8.out.c0
    have x1' := PX8.out.c1
    have zx' := PX8.out.z
    have y0' := P8.out.c0
    have y1' := P8.out.c1
    have z8 := P8.out.z
    have E8 : Hid (∀ W ga, Below w8.heap.size w8 W → Nib W ga (n * 4) f → Calls Try.prog 19 #[.agg #[.int .i64 s, .slice (some ⟨g3, 0, none⟩) n n], .agg #[.int .i64 s, .slice (some ⟨ga, 0, none⟩) n n]] W fun e w' => e = .returned (.bool true) ∧ Below W.heap.size W w') :=
      Lib.hid (fun W ga hb h3 => KE.out W g3 ga (nib_below N8.out hb) h3)
    clear KE
    go_upto_region 10 with fail
    go_cut [51] from 47 to 50 (fun p wx => p = .bool false ∧ Below w8.heap.size w8 wx)
    case first =>
      go_region_with (first
        | (go_at_call 17; go_loud (refine (KT.out _ (by first | exact B8 | exact B8.drew)).mono ?_); rintro e wA ⟨ga, rfl, hbA, hgA, sA1⟩;
           have kA : Below w8.heap.size w8 wA := (by first | exact hbA | exact (Below.refl _ _).drew.trans hbA);
           have xA0 := ((bcell kA).1 _ 0 zx').trans x0';
           have xA1 := ((bcell kA).1 _ 1 zx').trans x1';
           have zA := Nat.lt_of_lt_of_le zx' kA.size;
           clear hbA hgA)
        | (go_at_call 19; go_loud (refine (E8.out _ _ kA sA1).mono ?_); rintro e wB ⟨rfl, hbB⟩;
           have BB := kA.trans (hbB.mono kA.size); clear hbB))
      all_goals
        go_wp2_with fail
        go_meet
        case rel => exact ⟨rfl, by first | exact BB | exact BB.drew⟩
    case rest =>
    obtain ⟨rfl, BC⟩ := hcut
    rename World => wc
    clear x0' x1' zx' y0' y1' z8 E8
    have B9 := B8.trans (BC.mono B8.size)
    have P9 := Lib.hid (pbx_below P8.out BC)
    have C9 := Lib.hid (cl4_below C8.out BC)
    have PS9 := Lib.hid (pbx_below PS8.out BC)
    have RS9 := Lib.hid (rwi_below RS8.out BC hu8)
    have hu9 := Nat.le_trans hu8 BC.size
    have N9 := Lib.hid (nib_below N8.out BC)
    have PX9 := Lib.hid (pbx_below PX8.out BC)
    have RG9 := Lib.hid (rwi_below RG8.out BC hv8)
    have hv9 := Nat.le_trans hv8 BC.size
    have PG9 := Lib.hid (pbx_below PG8.out BC)
    clear P8 PS8 RS8 hu8 N8 PX8 RG8 hv8 PG8 B8
    clear BC
    have x0 := PX9.out.c0
    have x1 := PX9.out.c1
    have xz := PX9.out.z
    have hp9 := P9.out.z
    have hps9 := PS9.out.z
    have hpg9 := PG9.out.z
    go_wp2_with fail
    clear x0 x1 xz
    refine (KM.out wc g3 N9.out).mono ?_; rintro e w10 ⟨rfl, _, hz10, hk10, e1, e2, e3⟩
    have B10 : Below w.heap.size w w10 := B9.trans ⟨e1, e2, e3, hz10, fun k hk => hk10 k (by have := B9.size; omega) (.inl (by omega))⟩
    have hpne : w.heap.size < g3 := by omega
    have hcz10 := C9.out.z
    have C10 : Hid (Cl4 w10 (w.heap.size + 1) d0 d1 d2 d3) := Lib.hid ⟨Nat.lt_of_lt_of_le hcz10 hz10, (World.cell?_of_block (w := wc) (hk10 _ hcz10 (.inl (show w.heap.size + 1 < g3 by omega)))).trans C9.out.c0, (World.cell?_of_block (w := wc) (hk10 _ hcz10 (.inl (show w.heap.size + 1 < g3 by omega)))).trans C9.out.c1, (World.cell?_of_block (w := wc) (hk10 _ hcz10 (.inl (show w.heap.size + 1 < g3 by omega)))).trans C9.out.c2, (World.cell?_of_block (w := wc) (hk10 _ hcz10 (.inl (show w.heap.size + 1 < g3 by omega)))).trans C9.out.c3⟩
    have P10 : Hid (Pbx w10 w.heap.size s A n c) := Lib.hid ⟨Nat.lt_of_lt_of_le hp9 hz10, (World.cell?_of_block (w := wc) (hk10 _ hp9 (.inl hpne))).trans P9.out.c0, (World.cell?_of_block (w := wc) (hk10 _ hp9 (.inl hpne))).trans P9.out.c1⟩
    have PS10 : Hid (Pbx w10 bS S AS p cS) := Lib.hid ⟨Nat.lt_of_lt_of_le hps9 hz10, (World.cell?_of_block (w := wc) (hk10 _ hps9 (.inl hbg))).trans PS9.out.c0, (World.cell?_of_block (w := wc) (hk10 _ hps9 (.inl hbg))).trans PS9.out.c1⟩
    have hgg : g3 + 1 ≤ bG := by omega
    have PG10 : Hid (Pbx w10 bG S AG p cG) := Lib.hid ⟨Nat.lt_of_lt_of_le hpg9 hz10, (World.cell?_of_block (w := wc) (hk10 _ hpg9 (.inr hgg))).trans PG9.out.c0, (World.cell?_of_block (w := wc) (hk10 _ hpg9 (.inr hgg))).trans PG9.out.c1⟩
    have RS10 := Lib.hid (rwi_block RS9.out fun k h1 h2 => hk10 k (by omega) (.inl (by omega)))
    have RG10 := Lib.hid (rwi_block RG9.out fun k h1 h2 => hk10 k (by omega) (.inr (by omega)))
    have hu10 := Nat.le_trans hu9 hz10
    have hv10 := Nat.le_trans hv9 hz10
    clear hz10 hk10 e1 e2 e3 B9 P9 PS9 PG9 PX9 N9 RS9 RG9 hu9 hv9 hp9 hps9 hpg9
    have hk0 : ¬ (1 : Int) + 4 * (n : Int) < 0 := by omega
    have hk1 : ¬ (1 : Int) + 4 * (p : Int) < 0 := by omega
    have a0 := PG10.out.c0
    have a1 := PG10.out.c1
    have az := PG10.out.z
    have dd0 := PS10.out.c0
    have dd1 := PS10.out.c1
    have ddz := PS10.out.z
    go_wp2_with fail
    clear a0 a1 az dd0 dd1 ddz
    refine (KQ.out w10 _ _ _ _ _ _ _ _ RG10.out hv10 RS10.out hu10).mono ?_; rintro e w11 ⟨rfl, hb11⟩
    have B11 := B10.trans (hb11.mono B10.size)
    have P11 := Lib.hid (pbx_below P10.out hb11)
    have C11 := Lib.hid (cl4_below C10.out hb11)
    have PS11 := Lib.hid (pbx_below PS10.out hb11)
    have RS11 := Lib.hid (rwi_below RS10.out hb11 hu10)
    have hu11 := Nat.le_trans hu10 hb11.size
    have RG11 := Lib.hid (rwi_below RG10.out hb11 hv10)
    have hv11 := Nat.le_trans hv10 hb11.size
    have PG11 := Lib.hid (pbx_below PG10.out hb11)
    clear P10 PS10 RS10 hu10 RG10 hv10 PG10 B10
    clear hb11
    have a0 := PG11.out.c0
    have a1 := PG11.out.c1
    have az := PG11.out.z
    have hp11 := P11.out.z
    have hps11 := PS11.out.z
    have hpg11 := PG11.out.z
    go_wp2_with fail
    clear a0 a1 az
    refine (KN.out w11 _ _ _ _ hv11 RG11.out).mono ?_; rintro e w12 ⟨rfl, rG12, hz12, hk12, e1, e2, e3⟩
    have B12 : Below w.heap.size w w12 := B11.trans ⟨e1, e2, e3, hz12, fun k hk => hk12 k (by have := B11.size; omega) (.inl (by omega))⟩
    have hgb : w.heap.size < lG := by omega
    have hsb : bS < lG := by omega
    have hcz12 := C11.out.z
    have C12 : Hid (Cl4 w12 (w.heap.size + 1) d0 d1 d2 d3) := Lib.hid ⟨Nat.lt_of_lt_of_le hcz12 hz12, (World.cell?_of_block (w := w11) (hk12 _ hcz12 (.inl (show w.heap.size + 1 < lG by omega)))).trans C11.out.c0, (World.cell?_of_block (w := w11) (hk12 _ hcz12 (.inl (show w.heap.size + 1 < lG by omega)))).trans C11.out.c1, (World.cell?_of_block (w := w11) (hk12 _ hcz12 (.inl (show w.heap.size + 1 < lG by omega)))).trans C11.out.c2, (World.cell?_of_block (w := w11) (hk12 _ hcz12 (.inl (show w.heap.size + 1 < lG by omega)))).trans C11.out.c3⟩
    have P12 : Hid (Pbx w12 w.heap.size s A n c) := Lib.hid ⟨Nat.lt_of_lt_of_le hp11 hz12, (World.cell?_of_block (w := w11) (hk12 _ hp11 (.inl hgb))).trans P11.out.c0, (World.cell?_of_block (w := w11) (hk12 _ hp11 (.inl hgb))).trans P11.out.c1⟩
    have PS12 : Hid (Pbx w12 bS S AS p cS) := Lib.hid ⟨Nat.lt_of_lt_of_le hps11 hz12, (World.cell?_of_block (w := w11) (hk12 _ hps11 (.inl hsb))).trans PS11.out.c0, (World.cell?_of_block (w := w11) (hk12 _ hps11 (.inl hsb))).trans PS11.out.c1⟩
    have PG12 : Hid (Pbx w12 bG S AG p cG) := Lib.hid ⟨Nat.lt_of_lt_of_le hpg11 hz12, (World.cell?_of_block (w := w11) (hk12 _ hpg11 hGb)).trans PG11.out.c0, (World.cell?_of_block (w := w11) (hk12 _ hpg11 hGb)).trans PG11.out.c1⟩
    have RS12 := Lib.hid (rwi_block RS11.out fun k h1 h2 => hk12 k (by omega) (.inl (by omega)))
    have RG12 := Lib.hid rG12
    have hu12 := Nat.le_trans hu11 hz12
    have hv12 := Nat.le_trans hv11 hz12
    clear hz12 hk12 e1 e2 e3 B11 P11 PS11 PG11 RS11 RG11 hu11 hv11 hp11 hps11 hpg11 rG12
    have a0 := PG12.out.c0
    have a1 := PG12.out.c1
    have az := PG12.out.z
    go_wp2_with fail
    clear a0 a1 az
    refine (KH.out w12 _ _ _ _ hv12 RG12.out).mono ?_; rintro e w13 ⟨rfl, hb13⟩
    have B13 := B12.trans (hb13.mono B12.size)
    have P13 := Lib.hid (pbx_below P12.out hb13)
    have C13 := Lib.hid (cl4_below C12.out hb13)
    have PS13 := Lib.hid (pbx_below PS12.out hb13)
    have RS13 := Lib.hid (rwi_below RS12.out hb13 hu12)
    have hu13 := Nat.le_trans hu12 hb13.size
    have RG13 := Lib.hid (rwi_below RG12.out hb13 hv12)
    have hv13 := Nat.le_trans hv12 hb13.size
    have PG13 := Lib.hid (pbx_below PG12.out hb13)
    clear P12 PS12 RS12 hu12 RG12 hv12 PG12 B12
    clear hb13
    have y0 := P13.out.c0
    have y1 := P13.out.c1
    have yz := P13.out.z
    have c0' := C13.out.c0
    have c1' := C13.out.c1
    have c2' := C13.out.c2
    have c3' := C13.out.c3
    have cz' := C13.out.z
    have SK : Hid (∀ W', Below w13.heap.size w13 W' → W'.cell? ⟨w.heap.size, 0, none⟩ = some (.int .i64 s) ∧ W'.cell? ⟨w.heap.size, 1, none⟩ = some (.slice A n c) ∧ W'.cell? ⟨w.heap.size + 1, 0, none⟩ = some (.int .i64 d0) ∧ W'.cell? ⟨w.heap.size + 1, 1, none⟩ = some (.int .i64 d1) ∧ W'.cell? ⟨w.heap.size + 1, 2, none⟩ = some (.int .i64 d2) ∧ W'.cell? ⟨w.heap.size + 1, 3, none⟩ = some (.int .i64 d3)) := Lib.hid (fun W hb => ⟨((bcell hb).1 _ _ P13.out.z).trans P13.out.c0, ((bcell hb).1 _ _ P13.out.z).trans P13.out.c1, ((bcell hb).1 _ _ C13.out.z).trans C13.out.c0, ((bcell hb).1 _ _ C13.out.z).trans C13.out.c1, ((bcell hb).1 _ _ C13.out.z).trans C13.out.c2, ((bcell hb).1 _ _ C13.out.z).trans C13.out.c3⟩)
    have KC2 : Hid (∀ W, Below w13.heap.size w13 W → Calls Try.prog 23 #[.agg #[.int .i64 d0, .int .i64 d1, .int .i64 d2, .int .i64 d3]] W fun e w' => e = .returned (.agg #[.int .i64 d0, .int .i64 d1, .int .i64 d2, .int .i64 d3]) ∧ Below w13.heap.size w13 w' ∧ (∀ g N h, Nib W g N h → Nib w' g N h) ∧ ∀ q u v, Pbw W q u v → Pbw w' q u v) := Lib.hid (fun W hb => (toClue_any d0 d1 d2 d3 W).mono fun e w' h => ⟨h.1, hb.trans (h.2.mono hb.size), fun g N h' x => nib_below x h.2, fun q u v x => pbw_below x h.2⟩)
    have KA2 : Hid (∀ W g, Below w13.heap.size w13 W → Nib W g (n * 4) f → Calls Try.prog 24 #[.agg #[.int .i64 s, .slice (some ⟨g, 0, none⟩) n n], .agg #[.int .i64 d0, .int .i64 d1, .int .i64 d2, .int .i64 d3]] W fun e w' => ∃ A c lS, e = .returned (.tuple #[.agg #[.int .i64 S, .slice A p c], .bool gb]) ∧ Below w13.heap.size w13 w' ∧ w13.heap.size ≤ lS ∧ lS ≤ w'.heap.size ∧ RwI w' lS w'.heap.size A (p * 4) F ∧ lS = W.heap.size ∧ ∀ q u v, Pbw W q u v → Pbw w' q u v) := Lib.hid (fun W g hb hN => (KI.out W g hN).mono fun e w' h => by
      obtain ⟨A1, c1, rfl, hb1, hr1⟩ := h
      exact ⟨A1, c1, W.heap.size, rfl, hb.trans (hb1.mono hb.size), hb.size, hb1.size, hr1, rfl, fun q u v x => pbw_below x hb1⟩)
    have KT2 : Hid (∀ W, Below w13.heap.size w13 W → Calls Try.prog 17 #[.agg #[.int .i64 s, .slice A n c]] W fun e w' => ∃ g, e = .returned (.agg #[.int .i64 s, .slice (some ⟨g, 0, none⟩) n n]) ∧ Below w13.heap.size w13 w' ∧ Nib w' g (n * 4) f ∧ ∀ q u v, Pbw W q u v → Pbw w' q u v) := Lib.hid (fun W hb => (KT.out W (B13.trans (hb.mono B13.size))).mono fun e w' h => by
      obtain ⟨g1, rfl, hb1, _, s1⟩ := h
      exact ⟨g1, rfl, hb.trans (hb1.mono hb.size), s1, fun q u v x => pbw_below x hb1⟩)
    go_upto_region 24 with fail
    go_cut [14, 15] from 79 to 86 (fun q r wx => AcR w13 S p F gb q r wx)
    case first =>
      go_region_held3 (fun W' => W'.cell? ⟨w.heap.size, 0, none⟩ = some (.int .i64 s) ∧ W'.cell? ⟨w.heap.size, 1, none⟩ = some (.slice A n c) ∧ W'.cell? ⟨w.heap.size + 1, 0, none⟩ = some (.int .i64 d0) ∧ W'.cell? ⟨w.heap.size + 1, 1, none⟩ = some (.int .i64 d1) ∧ W'.cell? ⟨w.heap.size + 1, 2, none⟩ = some (.int .i64 d2) ∧ W'.cell? ⟨w.heap.size + 1, 3, none⟩ = some (.int .i64 d3)) (exact SK.out _ (by repeat (first | with_reducible assumption | with_reducible exact Below.refl _ _ | with_reducible apply Below.drew | ((with_reducible refine Below.setCell ?_ ?_ _); rotate_left; (first | exact Nat.le_refl _ | omega | (simp <;> omega))) | ((with_reducible refine Below.alloc ?_ ?_ _); rotate_left; (first | omega | (simp <;> omega))))))
        (first
          | (go_at_call 24; refine (KA2.out _ _ (by repeat (first | with_reducible assumption | with_reducible exact Below.refl _ _ | with_reducible apply Below.drew | ((with_reducible refine Below.setCell ?_ ?_ _); rotate_left; (first | exact Nat.le_refl _ | omega | (simp <;> omega))) | ((with_reducible refine Below.alloc ?_ ?_ _); rotate_left; (first | omega | (simp <;> omega))))) (by first | exact nA | exact nib_below nA (by repeat (first | with_reducible assumption | with_reducible exact Below.refl _ _ | with_reducible apply Below.drew | ((with_reducible refine Below.setCell ?_ ?_ _); rotate_left; (first | exact Nat.le_refl _ | omega | (simp <;> omega))) | ((with_reducible refine Below.alloc ?_ ?_ _); rotate_left; (first | omega | (simp <;> omega))))))).mono ?_; rintro e wB ⟨A1, c1, lS, rfl, kB, hl1, hl2, hr, hlW, hcar⟩; (first | (have hq := cb.z; skip) | skip); (first | (have cbz := (pbw_drew cb).z; skip) | skip); (first | (have cb := hcar _ _ _ cb) | (have cb := hcar _ _ _ (pbw_drew cb)) | (have cb := hcar _ _ _ (pbw_new _ _ _ _)) | (have cb := hcar _ _ _ (pbw_drew (pbw_new _ _ _ _))) | skip); have kBz := kB.size; (first | (have b0 := cb.c0; have b1 := cb.c1; have bz := cb.z; have bf0 := cb.fz 0; have bf1 := cb.fz 1) | skip))
          | (go_at_call 17; refine (KT2.out _ (by repeat (first | with_reducible assumption | with_reducible exact Below.refl _ _ | with_reducible apply Below.drew | ((with_reducible refine Below.setCell ?_ ?_ _); rotate_left; (first | exact Nat.le_refl _ | omega | (simp <;> omega))) | ((with_reducible refine Below.alloc ?_ ?_ _); rotate_left; (first | omega | (simp <;> omega)))))).mono ?_; rintro e wA ⟨ga, rfl, kA, nA, hcar⟩; (first | (have cb := hcar _ _ _ cb) | (have cb := hcar _ _ _ (pbw_drew cb)) | (have cb := hcar _ _ _ (pbw_new _ _ _ _)) | (have cb := hcar _ _ _ (pbw_drew (pbw_new _ _ _ _))) | skip); have kAz := kA.size)
          | (go_at_call 23; refine (KC2.out _ (by repeat (first | with_reducible assumption | with_reducible exact Below.refl _ _ | with_reducible apply Below.drew | ((with_reducible refine Below.setCell ?_ ?_ _); rotate_left; (first | exact Nat.le_refl _ | omega | (simp <;> omega))) | ((with_reducible refine Below.alloc ?_ ?_ _); rotate_left; (first | omega | (simp <;> omega)))))).mono ?_; rintro e wC ⟨rfl, kC, hcn, hcar⟩; (first | (have nA := hcn _ _ _ nA) | (have nA := hcn _ _ _ (nib_below nA ((Below.refl _ _).drew))) | (have nA := hcn _ _ _ (nib_below nA (Below.alloc (Below.refl _ _) (Nat.le_refl _) _))) | (have nA := hcn _ _ _ (nib_below nA ((Below.alloc (Below.refl _ _) (Nat.le_refl _) _).drew))) | skip); (first | (have cb := hcar _ _ _ cb) | (have cb := hcar _ _ _ (pbw_drew cb)) | (have cb := hcar _ _ _ (pbw_new _ _ _ _)) | (have cb := hcar _ _ _ (pbw_drew (pbw_new _ _ _ _))) | skip); have kCz := kC.size))
      all_goals
        go_wp2_with fail
        go_meet
        case rel =>
        first
          | exact acR_new kB hl1 hl2 hr
          | exact acR_new2 kB hl1 hl2 hr
          | exact acR_old kB hl1 hl2 hr cb (by first | exact Nat.le_refl _ | omega | (simp; done) | (simp; omega)) (by rw [hlW]; first | omega | (simp; done) | (simp; omega))
    case rest =>
    obtain ⟨bH, AH, cH, lH, uH, rfl, rfl, BC14, _, _, _, hh16, _, PH16, RH16⟩ := hcut
    rename World => W16
    clear y0 y1 yz c0' c1' c2' c3' cz' SK KC2 KA2 KT2
    have B16 := B13.trans (BC14.mono B13.size)
    have PS16 := Lib.hid (pbx_below PS13.out BC14)
    have RS16 := Lib.hid (rwi_below RS13.out BC14 hu13)
    have hu16 := Nat.le_trans hu13 BC14.size
    have RG16 := Lib.hid (rwi_below RG13.out BC14 hv13)
    have hv16 := Nat.le_trans hv13 BC14.size
    have PG16 := Lib.hid (pbx_below PG13.out BC14)
    clear P13 C13 PS13 RS13 hu13 RG13 hv13 PG13 B13 BC14
    have a0 := PH16.out.c0
    have a1 := PH16.out.c1
    have az := PH16.out.z
    have dd0 := PS16.out.c0
    have dd1 := PS16.out.c1
    have ddz := PS16.out.z
    go_wp2_with fail
    clear a0 a1 az dd0 dd1 ddz
    refine (KQ.out W16 _ _ _ _ _ _ _ _ RH16.out hh16 RS16.out hu16).mono ?_; rintro e w17 ⟨rfl, hb17⟩
    have B17 := B16.trans (hb17.mono B16.size)
    have RG17 := Lib.hid (rwi_below RG16.out hb17 hv16)
    have hv17 := Nat.le_trans hv16 hb17.size
    have PG17 := Lib.hid (pbx_below PG16.out hb17)
    clear RG16 hv16 PG16 B16
    clear hb17 PS16 RS16 hu16 RH16 hh16
    have a0 := PG17.out.c0
    have a1 := PG17.out.c1
    have az := PG17.out.z
    go_wp2_with fail
    clear a0 a1 az
    refine (KH.out w17 _ _ _ _ hv17 RG17.out).mono ?_; rintro e w18 ⟨rfl, hb18⟩
    have B18 := B17.trans (hb18.mono B17.size)
    go_wp2_with fail
    go_ret
    exact ⟨rfl, B18⟩
  · rw [if_neg hbig] at KZ
    clear hR hc1 hm1 hbig
    go_enter Try.func4, Try.ntmps4
    go_wp2_with fail
    refine (KZ.out _).mono ?_; rintro e w0 ⟨rfl, hb0⟩
    go_wp2_with fail
    go_ret
    exact ⟨rfl, HB.out.trans (hb0.mono HB.out.size)⟩
set_option maxRecDepth 100000 in
theorem addClue_lifted (os : Os) (started : os.Started) (H : Type) (enc : TypeId × Value → H) :
    ReturnsInHanded {} Try.checked os 4 .any (Rows.fnExactAddClueSpec.pre6 enc Try.prog Try.f4 Rows.fnExactAddClueRow.domain false) (Rows.fnExactAddClueSpec.post enc Try.prog Try.f4 false true false false) := by
  refine returnsInHanded_of_change (C := Try.checked) own started (by kernel_rfl) Try.func4
    (ChangeSpec.witness6 (enc := enc) (C := Try.checked) false ⟨#[], #[.agg #[.int .i64 0, .slice none 0 0], .agg #[.int .i64 0, .int .i64 0, .int .i64 0, .int .i64 0]], []⟩ 8 (by kernel_rfl) (by kernel_rfl) (by kernel_rfl) (by kernel_rfl)) ?_
  intro W base args ds gs before hval0 hW hcnd _
  have hval : ∀ (j : Nat) t v, Try.f4.params[j]? = some t → args[j]? = some v → Value.okWide Try.prog W .any base t v := hval0
  have hW' := hW
  obtain ⟨p, q, hA0, hV, rfl, hfz, hnd⟩ := hW
  have hA : DataW.TrodAll enc Try.prog W 0 (fun _ => true) true Try.f4.params.toList args.toList ds p := hA0
  rw [Try.params4] at hA hval
  obtain ⟨v0, vs0, d0, ds0, p0, q0, hargs, rfl, rfl, h0, r0⟩ := trodAll_cons hA
  obtain ⟨v1, vs1, d1, ds1, p1, q1, rfl, rfl, rfl, h1, r1⟩ := trodAll_cons r0
  obtain ⟨rfl, rfl, rfl⟩ := trodAll_nil r1
  obtain rfl : args = #[v0, v1] := by cases args; simp_all
  obtain ⟨s0, A0, c0, n0, f0, rfl, hlc0, hcm0, hR0⟩ := open_puzzle (hval 0 24 v0 rfl rfl) h0
  unfold maxLen at hcm0
  obtain ⟨k1, x1, y1, z1, rfl⟩ := open_clue (hval 1 36 v1 rfl rfl) h1
  refine (addClue_walk s0 A0 c0 n0 f0 k1 x1 y1 z1 W hlc0 hcm0 hR0).mono fun e W' ⟨he, hb⟩ => ?_
  subst he
  exact ⟨_, rfl, law_done hW' rfl (by kernel_rfl) (fun t ht => by rw [Try.params4] at ht; simp at ht; first | (rcases ht with rfl | rfl <;> first | exact fineP | exact fineC)) rfl hb⟩
theorem addClue_over : Rows.fnExactAddClueRow.holds Try.pinned (OpenSpec.ofChange Rows.fnExactAddClueSpec) :=
  OpenClaim.holds_of_wide 4 Try.f4 rfl rfl rfl rfl rfl rfl rfl ⟨rfl, rfl, rfl, rfl, rfl⟩ rfl rfl rfl rfl rfl (by kernel_rfl) Try.func4 (by kernel_rfl)
    (of_decide_eq_true (by kernel_rfl)) (by unfold Func.isWrapper; rw [if_neg (of_decide_eq_false (by kernel_rfl))]; exact ⟨rfl, rfl⟩)
    (fun os started H enc _ => addClue_lifted os started H enc)
theorem addClue_proved : Rows.FnExactAddClueSaid := addClue_over
end Go.Proofs.Ytacabmbajadbgaa
