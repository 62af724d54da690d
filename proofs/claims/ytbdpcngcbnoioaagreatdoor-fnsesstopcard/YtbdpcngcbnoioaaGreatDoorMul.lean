/- Contracts of the library laid at this seat's functions. -/
import Derived.Shelf.Bits.Mul64
import Derived.Test.YtbdpcngcbnoioaaGreatDoorRows
namespace Go.Proofs.YtbdpcngcbnoioaaGreatDoor
open Go.Shelf
def mulU_ren : Go.Shelf.Ren := ⟨fun | 264 => 258 | n => n, fun | 53 => 248 | 46 => 192 | n => n, fun | n => n⟩
theorem mulU : Go.Proofs.Lays.n264 Tryz.prog mulU_ren := {
  mixed := by kernel_rfl,
  f264 := Tryz.func258.trans (congrArg some (by kernel_rfl)),
  t46 := Tryz.underlying192,
  a46 := Tryz.isAgg192,
  z46 := Tryz.sizeOf192,
  v46 := Tryz.zeroValue192,
  t53 := Tryz.underlying248,
  a53 := Tryz.isAgg248,
  z53 := Tryz.sizeOf248,
  v53 := Tryz.zeroValue248 }
end Go.Proofs.YtbdpcngcbnoioaaGreatDoor
