/- the library's function as it stands in this program, laid beside that of the shelf -/
import Derived.Shelf.SlicesE.Clone
import Derived.Test.YthpbnfmfedggjaaRows
namespace Go.Proofs.Ythpbnfmfedggjaa
open Go.Shelf
def layClone_ren : Go.Shelf.Ren := ⟨fun | 41 => 64 | n => n, fun | 22 => 25 | 23 => 38 | 4 => 4 | n => n, fun | n => n⟩
theorem layClone : Go.Proofs.SlLaysE0.n41 Try.prog layClone_ren := {
  mixed := by kernel_rfl
  f41 := ⟨Try.f64.name, by decide, Try.func64.trans (congrArg some (by kernel_rfl))⟩
  t4 := Try.underlying4
  a4 := Try.isAgg4
  z4 := Try.sizeOf4
  v4 := Try.zeroValue4
  t22 := Try.underlying25
  a22 := Try.isAgg25
  z22 := Try.sizeOf25
  v22 := Try.zeroValue25 }
end Go.Proofs.Ythpbnfmfedggjaa
