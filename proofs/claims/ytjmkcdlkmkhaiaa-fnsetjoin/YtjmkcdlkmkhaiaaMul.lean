/- Contracts of the library laid at this seat's functions. -/
import Derived.Shelf.Bits.Mul64
import Derived.Test.YtjmkcdlkmkhaiaaRows
namespace Go.Proofs.Ytjmkcdlkmkhaiaa
open Go.Shelf
def mulU_ren : Go.Shelf.Ren := ⟨fun | 264 => 152 | n => n, fun | 53 => 142 | 46 => 138 | n => n, fun | n => n⟩
theorem mulU : Go.Proofs.Lays.n264 Try.prog mulU_ren := {
  mixed := by kernel_rfl,
  f264 := Try.func152.trans (congrArg some (by kernel_rfl)),
  t46 := Try.underlying138,
  a46 := Try.isAgg138,
  z46 := Try.sizeOf138,
  v46 := Try.zeroValue138,
  t53 := Try.underlying142,
  a53 := Try.isAgg142,
  z53 := Try.sizeOf142,
  v53 := Try.zeroValue142 }
end Go.Proofs.Ytjmkcdlkmkhaiaa
