/- lists of numbers that come in, laid anew: a block of their own -/
import Derived.Test.YtacabmbajadbgaaCiM
namespace Go.Proofs.Ytacabmbajadbgaa
open Go.ChangeShapes Go.WideShapes Go.ChangeAt Go.RowKit Go.Joins
set_option linter.unusedVariables false
set_option linter.unusedSimpArgs false
set_option maxRecDepth 4000
/-- block g holds the numbers -/
structure Nis (w : World) (g n : Nat) (f : Nat → Int) : Prop where
  z : g < w.heap.size
  r : RwI w g (g + 1) (some ⟨g, 0, none⟩) n f
theorem nis_below {w w' : World} {g n : Nat} {f : Nat → Int} (h : Nis w g n f) (hb : Below w.heap.size w w') : Nis w' g n f := ⟨Nat.lt_of_lt_of_le h.z hb.size, rwi_below h.r hb h.z⟩
theorem Nis.first {w : World} {g n : Nat} {f : Nat → Int} (h : Nis w g n f) : g < w.heap.size := h.z
theorem nis_rd {w : World} {g n : Nat} {f : Nat → Int} (h : Nis w g n f) : RdI w w.heap.size (some ⟨g, 0, none⟩) n f := rdi_of_rw h.r h.z
theorem nis_eq {w : World} {g g' n : Nat} {f : Nat → Int} (c c' : Nat) (hn : n ≤ 1048576) (h : Nis w g n f) (h' : Nis w g' n f) :
    Calls Try.prog 27 #[.slice (some ⟨g, 0, none⟩) n c, .slice (some ⟨g', 0, none⟩) n c'] w fun e w' => e = .returned (.bool true) ∧ Below w.heap.size w w' :=
  eqIntS_same _ _ c c' n g (g + 1) g' (g' + 1) f w hn h.r h.z h'.r h'.z
theorem nis_mark {w : World} {g n : Nat} {f : Nat → Int} (c : Nat) (hn : n ≤ 1048576) (h : Nis w g n f) :
    Calls Try.prog 28 #[.slice (some ⟨g, 0, none⟩) n c, .int .i64 1] w fun e w' => e = .returned (.int .i64 (1 + (n : Int))) ∧ Only g (g + 1) w w' :=
  (markIntS_any _ c n 1 g (g + 1) f w hn (by omega) (by omega) h.r).mono fun e w' hh => ⟨hh.1, hh.2.1⟩
theorem nis_of_seti {w : World} {g n : Nat} {f : Nat → Int} (h : SetI w g n n f) : Nis w g n f := ⟨h.1, fun hn => by
  obtain ⟨b, off, e, h1, h2, h3⟩ := rwi_of_seti h (Nat.le_refl g) hn
  injection e with e
  injection e with e1 e2
  subst e1
  exact ⟨g, off, by rw [← e2], h1, by omega, h3⟩⟩
set_option maxHeartbeats 1000000 in
theorem toIntS_full (A : Option Addr) (c n : Nat) (f : Nat → Int) (w : World) (hn : n ≤ 1048576) (hR : RdI w w.heap.size A n f) :
    Calls Try.prog 40 #[.slice A n c] w fun e w' => e = .returned (.slice (some ⟨w.heap.size, 0, none⟩) n n) ∧ Below w.heap.size w w' ∧ Nis w' w.heap.size n f := by
  obtain ⟨i0, hi0, hz0, hz1, hz2⟩ := info_parts int_info
  have hmk := fun W => run_make (P := Try.prog) W 41 3 i0 _ Try.underlying41 hi0 hz0 .i64 .i64 (n : Int) (n : Int) (by omega) (by omega) (by rw [hz2]; omega) (by omega)
  have HR := Lib.hid hR
  clear hR
  go_enter Try.func40, Try.ntmps40
  go_wp2_with fail
  have hS0 := Lib.hid (seti_new w 3 n f)
  have hB0 : Below w.heap.size w (w.alloc (.cells (madeCells #[.int .i64 0] (n * 1)) 3)) := (Below.refl _ _).alloc (Nat.le_refl _) _
  clear hmk
  simp only [Nat.mul_one] at hS0 hB0
  go_loopg [4] n (fun g i wr => ∃ k : Nat, k ≤ n ∧ g = n - k ∧ i = .int .i64 k ∧ Below w.heap.size w wr ∧ Hid (SetI wr w.heap.size n k f))
  case atStart => exact ⟨0, Nat.zero_le _, rfl, rfl, hB0, hS0⟩
  case round =>
    clear hB0 hS0
    obtain ⟨k, hk, hg, rfl, hB, hS⟩ := hrel
    rename World => wo
    have HGK := Lib.hid hg
    clear hg
    by_cases hlt : k < n
    · obtain ⟨b, off, rfl, hb, hcell⟩ := HR.out (by omega)
      have hq : wo.cell? ⟨b, off + k, none⟩ = some (.int .i64 (f k)) := (hB.cell (p := ⟨b, off + k, none⟩) hb).trans (hcell k hlt)
      have S1 := hS.out
      obtain ⟨g1, g2, g3⟩ := S1
      obtain ⟨⟨u1, d1⟩, d3⟩ := g2 k hlt
      have S2 := Lib.hid (seti_store hS.out hlt)
      have B2 := Lib.hid (hB.setCell (p := ⟨w.heap.size, k, none⟩) (Nat.le_refl _) (.int .i64 (f k)))
      clear g2 g3 hS hcell
      go_wp2_with fail
      go_roundg (n - (k + 1))
      case measure => have := HGK.out; omega
      case rel => exact ⟨k + 1, by omega, rfl, by go_num, B2.out, S2⟩
    · have hkn : n = k := by omega
      subst hkn
      go_wp2_with fail
      go_ret
      exact ⟨rfl, hB, nis_of_seti hS.out⟩
end Go.Proofs.Ytacabmbajadbgaa
