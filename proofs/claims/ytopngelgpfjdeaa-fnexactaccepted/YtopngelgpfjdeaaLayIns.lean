/-
  Contracts of the kit's shelf, laid at this translation in plain words by its own tool.
-/
import Derived.Shelf.SlSortCmp.Insertion1
import Derived.Ground.SlsfProg
import Derived.Shelf.SlGeneric
import Derived.Test.YtopngelgpfjdeaaProg
namespace Go.Proofs.Ytopngelgpfjdeaa
open Go.Shelf
def Try.layIns_ren : Go.Shelf.Ren := ⟨fun | 20 => 170 | n => n, fun | 24 => 3 | 22 => 69 | 3 => 3 | 25 => 207 | 4 => 4 | 0 => 0 | n => n, fun | n => n⟩
theorem Try.layIns : Go.Proofs.SlLaysF.n20 Try.prog Try.layIns_ren := {
  mixed := by kernel_rfl
  f20 := ⟨Try.f170.name, by decide, Try.func170.trans (congrArg some (by kernel_rfl))⟩
  t0 := Try.underlying0
  a0 := Try.isAgg0
  z0 := Try.sizeOf0
  v0 := Try.zeroValue0
  t3 := Try.underlying3
  a3 := Try.isAgg3
  z3 := Try.sizeOf3
  v3 := Try.zeroValue3
  t4 := Try.underlying4
  a4 := Try.isAgg4
  z4 := Try.sizeOf4
  v4 := Try.zeroValue4
  t22 := Try.underlying69
  a22 := Try.isAgg69
  z22 := Try.sizeOf69
  v22 := Try.zeroValue69
  a24 := Try.isAgg3
  z24 := Try.sizeOf3
  t25 := Try.underlying207
  a25 := Try.isAgg207
  z25 := Try.sizeOf207
  v25 := Try.zeroValue207 }
end Go.Proofs.Ytopngelgpfjdeaa
