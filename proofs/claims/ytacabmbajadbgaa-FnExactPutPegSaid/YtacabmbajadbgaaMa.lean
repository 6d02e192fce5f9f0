/- lists of numbers that are read; l1All at any of them; moves of the model -/
import Derived.Test.YtacabmbajadbgaaMl
import Derived.Test.YtacabmbajadbgaaZ
import Derived.LoopTactic
import Derived.BigRegion
namespace Go.Proofs.Ytacabmbajadbgaa
open Go.ChangeShapes Go.WideShapes Go.ChangeAt Go.RowKit Go.Joins
set_option linter.unusedVariables false
set_option linter.unusedSimpArgs false
set_option maxRecDepth 4000
/-- the slice's cells from address A on hold the numbers f 0, .., f (n - 1), below block z -/
def RdI (w : World) (z : Nat) (A : Option Addr) (n : Nat) (f : Nat → Int) : Prop :=
  0 < n → ∃ b off, A = some ⟨b, off, none⟩ ∧ b < z ∧ ∀ i, i < n → w.cell? ⟨b, off + i, none⟩ = some (.int .i64 (f i))
theorem rdi_below {w w' : World} {z : Nat} {A : Option Addr} {n : Nat} {f : Nat → Int} (h : RdI w z A n f) (hb : Below w.heap.size w w') (hz : z ≤ w.heap.size) : RdI w' w'.heap.size A n f := fun hn => by
  obtain ⟨b, off, e, h1, h2⟩ := h hn
  have := hb.size
  exact ⟨b, off, e, by omega, fun i hi => ((bcell hb).1 _ _ (by omega)).trans (h2 i hi)⟩
def inQ (lo hi k : Int) : Bool := decide (lo ≤ k) && decide (k ≤ hi)
def allIn (lo hi : Int) (f : Nat → Int) : Nat → Bool
  | 0 => true
  | n + 1 => allIn lo hi f n && inQ lo hi (f n)
theorem allIn_false {lo hi : Int} {f : Nat → Int} {k n : Nat} (h : k < n) (hf : inQ lo hi (f k) = false) : allIn lo hi f n = false := by
  induction n with
  | zero => omega
  | succ m ih =>
    by_cases hk : k = m
    · subst hk; show (_ && _) = false; rw [hf]; simp
    · show (_ && _) = false; rw [ih (by omega)]; rfl
set_option maxHeartbeats 1000000 in
theorem l1All_any (A : Option Addr) (c n : Nat) (f : Nat → Int) (lo hi : Int) (w : World) (hn : n ≤ 1048576) (hR : RdI w w.heap.size A n f) :
    Calls Try.prog 105 #[.slice A n c, .int .i64 lo, .int .i64 hi] w fun e w' => e = .returned (.bool (allIn lo hi f n)) ∧ Below w.heap.size w w' := by
  have KI := Lib.hid (fun x W => l1In_any x lo hi W)
  have HR := Lib.hid (fun W (hb : Below w.heap.size w W) => rdi_below hR hb (Nat.le_refl _))
  clear hR
  go_enter Try.func105, Try.ntmps105
  go_wp2_with fail
  go_loopg [11] n (fun g i wr => ∃ k : Nat, k ≤ n ∧ g = n - k ∧ i = .int .i64 k ∧ Below w.heap.size w wr ∧ Hid (allIn lo hi f k = true))
  case atStart => exact ⟨0, Nat.zero_le _, rfl, rfl, Below.refl _ _, Lib.hid rfl⟩
  case round =>
    obtain ⟨k, hk, hg, rfl, hB, hF⟩ := hrel
    rename World => wo
    have HGK := Lib.hid hg
    clear hg
    by_cases hkn : k < n
    · obtain ⟨b, off, rfl, hb, hc⟩ := HR.out wo hB (by omega)
      have h0 := hc k hkn
      by_cases hq : inQ lo hi (f k) = true
      · have HN := Lib.hid hq
        unfold inQ at hq
        have F2 := Lib.hid (show allIn lo hi f (k + 1) = true by show (_ && _) = true; rw [hF.out, HN.out]; rfl)
        clear hc HR hF
        go_wp2_with fail
        refine (KI.out _ _).mono ?_; rintro e _ ⟨rfl, rfl⟩
        rw [hq]
        clear hq
        go_wp2_with fail
        go_roundg (n - (k + 1))
        case measure => have := HGK.out; omega
        case rel => exact ⟨k + 1, by omega, rfl, by go_num, hB, F2⟩
      · have hq2 : inQ lo hi (f k) = false := by simpa using hq
        have HN := Lib.hid (allIn_false (n := n) hkn hq2)
        unfold inQ at hq2
        clear hq hc HR hF
        go_wp2_with fail
        refine (KI.out _ _).mono ?_; rintro e _ ⟨rfl, rfl⟩
        rw [hq2]
        clear hq2
        go_wp2_with fail
        go_ret
        exact ⟨ret_bool HN.out.symm, hB⟩
    · have hkn : n = k := by omega
      subst hkn
      go_wp2_with fail
      go_ret
      exact ⟨ret_bool hF.out.symm, hB⟩
end Go.Proofs.Ytacabmbajadbgaa
