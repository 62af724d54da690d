/- Contracts of the library laid at this seat's functions. -/
import Derived.Shelf.Bits.Mul64
import Derived.Test.YtjlaeeccnbdghaaGreatRows
namespace Go.Proofs.YtjlaeeccnbdghaaGreat
open Go.Shelf
def mulU_ren : Go.Shelf.Ren := ⟨fun | 264 => 111 | n => n, fun | 53 => 112 | 46 => 108 | n => n, fun | n => n⟩
theorem mulU : Go.Proofs.Lays.n264 Tryz.prog mulU_ren := {
  mixed := by kernel_rfl,
  f264 := Tryz.func111.trans (congrArg some (by kernel_rfl)),
  t46 := Tryz.underlying108,
  a46 := Tryz.isAgg108,
  z46 := Tryz.sizeOf108,
  v46 := Tryz.zeroValue108,
  t53 := Tryz.underlying112,
  a53 := Tryz.isAgg112,
  z53 := Tryz.sizeOf112,
  v53 := Tryz.zeroValue112 }
end Go.Proofs.YtjlaeeccnbdghaaGreat
