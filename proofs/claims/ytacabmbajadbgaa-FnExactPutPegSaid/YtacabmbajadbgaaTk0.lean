/- numbers in a block: two of them are set; slices.Delete of them; addBeside -/
import Derived.Test.YtacabmbajadbgaaRi3
import Derived.Test.YtacabmbajadbgaaCiN
import Derived.Shelf.SlicesE.Delete
import Derived.Test.YtacabmbajadbgaaRows
namespace Go.Proofs.Ytacabmbajadbgaa
open Go.ChangeShapes Go.WideShapes Go.ChangeAt Go.RowKit Go.Joins
set_option linter.unusedVariables false
set_option linter.unusedSimpArgs false
set_option maxRecDepth 4000
section
open Go.Shelf
def layDelI_ren : Go.Shelf.Ren := ⟨fun | 45 => 88 | n => n, fun | 22 => 41 | 23 => 3 | 3 => 3 | 4 => 4 | 0 => 0 | n => n, fun | n => n⟩
theorem layDelI : Go.Proofs.SlLaysE.n45 Try.prog layDelI_ren := {
  mixed := by kernel_rfl
  f45 := ⟨Try.f88.name, by decide, Try.func88.trans (congrArg some (by kernel_rfl))⟩
  t0 := Try.underlying0
  a0 := Try.isAgg0
  z0 := Try.sizeOf0
  v0 := Try.zeroValue0
  t3 := Try.underlying3
  a3 := Try.isAgg3
  z3 := Try.sizeOf3
  v3 := Try.zeroValue3
  t4 := Try.underlying4
  a4 := Try.isAgg4
  z4 := Try.sizeOf4
  v4 := Try.zeroValue4
  t22 := Try.underlying41
  a22 := Try.isAgg41
  z22 := Try.sizeOf41
  v22 := Try.zeroValue41
  a23 := Try.isAgg3
  z23 := Try.sizeOf3 }
end
theorem int_infoD : (Try.prog.info? 3).map (fun i => (i.zero, i.size, i.bytes)) = some (some (.int .i64 0), 1, 8) := by kernel_rfl
/-- block g holds n numbers -/
structure Bk (w : World) (g n : Nat) (f : Nat → Int) : Prop where
  z : g < w.heap.size
  c : ∀ i, i < n → w.cell? ⟨g, i, none⟩ = some (.int .i64 (f i))
  fz : ∀ o, w.frozen? ⟨g, o, none⟩ = false
theorem bk_below {w w' : World} {g n : Nat} {f : Nat → Int} (h : Bk w g n f) (hb : Below w.heap.size w w') : Bk w' g n f :=
  ⟨Nat.lt_of_lt_of_le h.z hb.size, fun i hi => ((bcell hb).1 _ _ h.z).trans (h.c i hi), fun o => ((bcell hb).2 _ _ h.z).trans (h.fz o)⟩
theorem bk_less {w : World} {g n m : Nat} {f : Nat → Int} (h : Bk w g n f) (hm : m ≤ n) : Bk w g m f := ⟨h.z, fun i hi => h.c i (by omega), h.fz⟩
theorem bk_set {w : World} {g n : Nat} {f : Nat → Int} (h : Bk w g n f) {p : Nat} (hp : p < n) (x : Int) : Bk (w.setCell ⟨g, p, none⟩ (.int .i64 x)) g n (upd f p x) := by
  refine ⟨by simpa [World.setCell] using h.z, fun i hi => ?_, fun o => by rw [World.frozen?_setCell]; exact h.fz o⟩
  unfold upd
  by_cases e : i = p
  · subst e
    rw [if_pos rfl]
    exact World.cell?_setCell_same _ _ _ (h.c i hi)
  · rw [if_neg e, World.cell?_setCell_other _ _ _ _ (fun e2 => e (by injection e2 with _ e3; exact e3.symm))]
    exact h.c i hi
theorem bk_of_rg {w : World} {g c : Nat} {F : Nat → Int} {d : Int} (r : Rg w g F d) (hc : c ≤ 9) : Bk w g c F := ⟨rg_z r, fun i hi => rg_cell r i (by omega), fun o => rg_frozen r o⟩
theorem bk_rd {w : World} {g n : Nat} {f : Nat → Int} (h : Bk w g n f) : RdI w w.heap.size (some ⟨g, 0, none⟩) n f := fun _ => ⟨g, 0, rfl, h.z, fun i hi => by rw [Nat.zero_add]; exact h.c i hi⟩
theorem bk_rw {w : World} {g n lo : Nat} {f : Nat → Int} (h : Bk w g n f) (hlo : lo ≤ g) : RwI w lo w.heap.size (some ⟨g, 0, none⟩) n f := fun _ => ⟨g, 0, rfl, hlo, h.z, fun i hi => by rw [Nat.zero_add]; exact ⟨h.c i hi, h.fz _⟩⟩
/-- more is added to both numbers beside one -/
def adB (f : Nat → Int) (n at_ : Nat) (m : Int) : Nat → Int := upd (upd f ((at_ + n - 1) % n) (f ((at_ + n - 1) % n) + m)) ((at_ + 1) % n) (upd f ((at_ + n - 1) % n) (f ((at_ + n - 1) % n) + m) ((at_ + 1) % n) + m)
/-- without number k -/
def tkD (f : Nat → Int) (k i : Nat) : Int := if i < k then f i else f (i + 1)
theorem del_get (d : Array Int) (k : Nat) (f : Nat → Int) (n : Nat) (hds : d.size = n) (hdi : ∀ i, i < n → d[i]! = f i) (hk : k < n) (i : Nat) (hi : i < n - 1) :
    (d.toList.take k ++ d.toList.drop (k + 1) ++ List.replicate (k + 1 - k) (0 : Int))[i]? = some (tkD f k i) := by
  have hg : ∀ j, j < n → d.toList[j]? = some (f j) := fun j hj => by
    have := hdi j hj
    rw [getElem!_pos d j (by omega)] at this
    rw [Array.getElem?_toList, Array.getElem?_eq_getElem (by omega), this]
  have hl : d.toList.length = n := by simpa using hds
  rw [List.getElem?_append_left (by simp; omega)]
  unfold tkD
  by_cases hik : i < k
  · rw [if_pos hik, List.getElem?_append_left (by simp; omega), List.getElem?_take, if_pos hik, hg i (by omega)]
  · rw [if_neg hik, List.getElem?_append_right (by simp; omega), List.getElem?_drop, List.length_take, hl, show k + 1 + (i - min k n) = i + 1 by omega, hg (i + 1) (by omega)]
section
open Go.Shelf Go.Sort Go.Lib
theorem deleteI_any (g n cap k : Nat) (f : Nat → Int) (w : World) (hk : k < n) (hn : n ≤ cap) (hm : cap ≤ 9223372036854775807) (h : Bk w g n f) :
    Calls Try.prog 88 #[.slice (some ⟨g, 0, none⟩) n cap, .int .i64 (k : Int), .int .i64 ((k + 1 : Nat) : Int)] w fun e w' => e = .returned (.slice (some ⟨g, 0, none⟩) (n - 1) cap) ∧ Bk w' g (n - 1) (tkD f k) ∧ Below g w w' := by
  obtain ⟨i0, hi0, hz0, hz1, hz2⟩ := info_parts int_infoD
  obtain ⟨d, hd⟩ : ∃ d : Array Int, d = (Array.range n).map f := ⟨_, rfl⟩
  have hds : d.size = n := by rw [hd]; simp
  have hdi : ∀ i, i < n → d[i]! = f i := fun i hi => by rw [getElem!_pos d i (by omega)]; simp [hd]
  have hH : Holds (fun x : Int => Value.int .i64 x) w g 0 d := fun j hj => by
    rw [Nat.zero_add, hdi j (by omega)]
    exact ⟨h.c j (by omega), h.fz j⟩
  have hD := AnyE.slices_Delete layDelI (fun x : Int => Value.int .i64 x) (fun _ => rfl) 0 (fun _ => Try.zeroValue3 _) i0 hi0 hz1 g 0 cap k (k + 1) d w hH (by omega) hm (by omega) (by omega)
  rw [hds] at hD
  refine Calls.mono hD ?_
  rintro e w' ⟨rfl, q, rfl⟩
  refine ⟨by rw [show k + 1 - k = 1 by omega], ?_, ?_⟩
  · have hs2 : (d.toList.take k ++ d.toList.drop (k + 1) ++ List.replicate (k + 1 - k) (0 : Int)).toArray.size = d.size := by simp; omega
    have hh := holds_putRow (fun x : Int => Value.int .i64 x) (Go.Sort.ahead w q) g 0 d _ (holds_ahead _ w q g 0 d hH) hs2
    refine ⟨?_, fun i hi => ?_, fun o => by rw [frozen?_putRow]; exact h.fz o⟩
    · unfold putRow mapBlock
      simp only [Array.size_modify]
      exact h.z
    · have h1 := (hh i (by omega)).1
      rw [Nat.zero_add] at h1
      rw [h1]
      congr 2
      rw [getElem!_pos _ i (by omega)]
      have h2 := del_get d k f n hds hdi hk i hi
      rw [List.getElem?_eq_getElem (by simpa using (show i < (d.toList.take k ++ d.toList.drop (k + 1) ++ List.replicate (k + 1 - k) (0 : Int)).length by simp; omega))] at h2
      injection h2
  · refine ⟨rfl, rfl, rfl, ?_, fun j hj => ?_⟩
    · unfold putRow mapBlock; simp [Sort.ahead]
    · unfold putRow mapBlock
      simp only
      rw [Array.getElem?_modify, if_neg (by omega)]
      rfl
end
end Go.Proofs.Ytacabmbajadbgaa
