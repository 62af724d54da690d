/- Contracts of the library laid at this seat's functions. -/
import Derived.Shelf.Bits.Mul64
import Derived.Test.YtjlaeeccnbdghaaRows
namespace Go.Proofs.Ytjlaeeccnbdghaa
open Go.Shelf
def mulU_ren : Go.Shelf.Ren := ⟨fun | 264 => 98 | n => n, fun | 53 => 99 | 46 => 121 | n => n, fun | n => n⟩
theorem mulU : Go.Proofs.Lays.n264 Try.prog mulU_ren := {
  mixed := by kernel_rfl,
  f264 := Try.func98.trans (congrArg some (by kernel_rfl)),
  t46 := Try.underlying121,
  a46 := Try.isAgg121,
  z46 := Try.sizeOf121,
  v46 := Try.zeroValue121,
  t53 := Try.underlying99,
  a53 := Try.isAgg99,
  z53 := Try.sizeOf99,
  v53 := Try.zeroValue99 }
end Go.Proofs.Ytjlaeeccnbdghaa
