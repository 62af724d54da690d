/- Contracts of the library laid at this seat's functions. -/
import Derived.Shelf.Bits.Mul64
import Derived.Test.YtldejkhemkjcgaaGreatDoorRows
namespace Go.Proofs.YtldejkhemkjcgaaGreatDoor
open Go.Shelf
def mulU_ren : Go.Shelf.Ren := ⟨fun | 264 => 190 | n => n, fun | 53 => 209 | 46 => 183 | n => n, fun | n => n⟩
theorem mulU : Go.Proofs.Lays.n264 Tryz.prog mulU_ren := {
  mixed := by kernel_rfl,
  f264 := Tryz.func190.trans (congrArg some (by kernel_rfl)),
  t46 := Tryz.underlying183,
  a46 := Tryz.isAgg183,
  z46 := Tryz.sizeOf183,
  v46 := Tryz.zeroValue183,
  t53 := Tryz.underlying209,
  a53 := Tryz.isAgg209,
  z53 := Tryz.sizeOf209,
  v53 := Tryz.zeroValue209 }
end Go.Proofs.YtldejkhemkjcgaaGreatDoor
