/- contract: addBeside, the program -/
import Derived.Test.YtacabmbajadbgaaTk0
import Derived.Deep.CutRange
namespace Go.Proofs.Ytacabmbajadbgaa
open Go.ChangeShapes Go.WideShapes Go.ChangeAt Go.RowKit Go.Joins
set_option linter.unusedVariables false
set_option linter.unusedSimpArgs false
set_option maxRecDepth 4000
theorem tmodN (a n : Nat) (hn : 0 < n) : ((a : Int)).tmod (n : Int) = ((a % n : Nat) : Int) := by
  rw [Int.tmod_eq_emod_of_nonneg (by omega)]
  exact (Int.natCast_emod a n).symm
theorem addBeside_any (g n c k : Nat) (m : Int) (f : Nat → Int) (w : World) (hn : 1 ≤ n ∧ n ≤ 10) (hk : k < n) (hm : -5 ≤ m ∧ m ≤ 5) (hf : ∀ i, i < n → -100 ≤ f i ∧ f i ≤ 100) (h : Bk w g n f) :
    Calls Try.prog 87 #[.slice (some ⟨g, 0, none⟩) n c, .int .i64 (k : Int), .int .i64 m] w fun e w' => e = .returned (.tuple #[]) ∧ Bk w' g n (adB f n k m) ∧ Below g w w' := by
  obtain ⟨p, hp⟩ : ∃ p, p = (k + n - 1) % n := ⟨_, rfl⟩
  obtain ⟨q, hq⟩ : ∃ q, q = (k + 1) % n := ⟨_, rfl⟩
  have hpn : p < n := by rw [hp]; exact Nat.mod_lt _ (by omega)
  have hqn : q < n := by rw [hq]; exact Nat.mod_lt _ (by omega)
  have hA : adB f n k m = upd (upd f p (f p + m)) q (upd f p (f p + m) q + m) := by rw [hp, hq]; rfl
  rw [hA]
  have w1 : IntKind.i64.wrap ((k : Int) + (n : Int)) = (k : Int) + (n : Int) := IntWalk.i64_in _ (by omega)
  have w2 : IntKind.i64.wrap ((k : Int) + (n : Int) - 1) = (k : Int) + (n : Int) - 1 := IntWalk.i64_in _ (by omega)
  have e1 : ((k : Int) + (n : Int) - 1).tmod (n : Int) = (p : Int) := by
    rw [show (k : Int) + (n : Int) - 1 = ((k + n - 1 : Nat) : Int) by omega, tmodN _ _ (by omega), hp]
  have w3 : IntKind.i64.wrap ((p : Int)) = (p : Int) := IntWalk.i64_in _ (by omega)
  have w4 : IntKind.i64.wrap ((k : Int) + 1) = (k : Int) + 1 := IntWalk.i64_in _ (by omega)
  have e2 : ((k : Int) + 1).tmod (n : Int) = (q : Int) := by
    rw [show (k : Int) + 1 = ((k + 1 : Nat) : Int) by omega, tmodN _ _ (by omega), hq]
  have w5 : IntKind.i64.wrap ((q : Int)) = (q : Int) := IntWalk.i64_in _ (by omega)
  have hn0 : ¬ (n : Int) = 0 := by omega
  have p1 : (p : Int) < (n : Int) := by omega
  have q1 : (q : Int) < (n : Int) := by omega
  have b1 := hf p hpn
  have x1 : IntKind.i64.wrap (f p + m) = f p + m := IntWalk.i64_in _ (by omega)
  obtain ⟨f1, hf1⟩ : ∃ f1, f1 = upd f p (f p + m) := ⟨_, rfl⟩
  have b2 : -200 ≤ f1 q ∧ f1 q ≤ 200 := by
    rw [hf1]; unfold upd
    have := hf q hqn
    split <;> omega
  have x2 : IntKind.i64.wrap (f1 q + m) = f1 q + m := IntWalk.i64_in _ (by omega)
  rw [← hf1]
  have H1 : Hid (Bk (w.setCell ⟨g, p, none⟩ (.int .i64 (f p + m))) g n f1) := Lib.hid (by rw [hf1]; exact bk_set h hpn _)
  have B1 : Hid (Below g w (w.setCell ⟨g, p, none⟩ (.int .i64 (f p + m)))) := Lib.hid ((Below.refl g w).setCell (p := ⟨g, p, none⟩) (Nat.le_refl _) _)
  have c0 := h.c p hpn
  have f0 := h.fz p
  have z0 := h.z
  have hpq : ∀ i, i < n → (if i = p then some (Value.int .i64 (f p + m)) else some (.int .i64 (f i))) = some (.int .i64 (f1 i)) := fun i _ => by rw [hf1]; unfold upd; split <;> rfl
  clear hf b1 b2 hA hp hq hf1 h hm hpq
  generalize f p = fp at *
  go_enter Try.func87, Try.ntmps87
  go_upto_region 2 with fail
  obtain ⟨W1, hW1⟩ : ∃ W1, W1 = w.setCell ⟨g, p, none⟩ (.int .i64 (fp + m)) := ⟨_, rfl⟩
  rw [← hW1] at H1 B1 ⊢
  clear hW1 c0 f0 z0
  have c0 := H1.out.c q hqn
  have f0 := H1.out.fz q
  have z0 := H1.out.z
  have H2 : Hid (Bk (W1.setCell ⟨g, q, none⟩ (.int .i64 (f1 q + m))) g n (upd f1 q (f1 q + m))) := Lib.hid (bk_set H1.out hqn _)
  have B2 : Hid (Below g w (W1.setCell ⟨g, q, none⟩ (.int .i64 (f1 q + m)))) := Lib.hid (B1.out.setCell (p := ⟨g, q, none⟩) (Nat.le_refl _) _)
  go_wp2_with fail
  exact bodyPost_end (v := .tuple #[]) (by simp [results, Try.results87, go_sem]) rfl ⟨rfl, H2.out, B2.out⟩
end Go.Proofs.Ytacabmbajadbgaa
