/- Contracts of the library laid at this seat's functions. -/
import Derived.Shelf.Bits.Mul64
import Derived.Test.YtlddhfimiignaaaRows
namespace Go.Proofs.Ytlddhfimiignaaa
open Go.Shelf
def mulU_ren : Go.Shelf.Ren := ⟨fun | 264 => 132 | n => n, fun | 53 => 70 | 46 => 122 | n => n, fun | n => n⟩
theorem mulU : Go.Proofs.Lays.n264 Try.prog mulU_ren := {
  mixed := by kernel_rfl,
  f264 := Try.func132.trans (congrArg some (by kernel_rfl)),
  t46 := Try.underlying122,
  a46 := Try.isAgg122,
  z46 := Try.sizeOf122,
  v46 := Try.zeroValue122,
  t53 := Try.underlying70,
  a53 := Try.isAgg70,
  z53 := Try.sizeOf70,
  v53 := Try.zeroValue70 }
end Go.Proofs.Ytlddhfimiignaaa
