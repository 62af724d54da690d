/- Contracts of the library laid at this seat's functions. -/
import Derived.Shelf.Strconv.Itoa3
import Derived.Test.YtpkfgjloepbfpaaDoorRows
namespace Go.Proofs.YtpkfgjloepbfpaaDoor
open Go.Shelf
def lenU_ren : Go.Shelf.Ren := ⟨fun | 129 => 51 | n => n, fun | 53 => 113 | 3 => 3 | 4 => 4 | 46 => 122 | 5 => 5 | 9 => 9 | n => n, fun | n => n⟩
theorem lenU : Go.Proofs.Lays.n129 Tryd.prog lenU_ren := {
  mixed := by kernel_rfl,
  f129 := Tryd.func51.trans (congrArg some (by kernel_rfl)),
  t3 := Tryd.underlying3,
  a3 := Tryd.isAgg3,
  z3 := Tryd.sizeOf3,
  v3 := Tryd.zeroValue3,
  t4 := Tryd.underlying4,
  a4 := Tryd.isAgg4,
  z4 := Tryd.sizeOf4,
  v4 := Tryd.zeroValue4,
  t5 := Tryd.underlying5,
  a5 := Tryd.isAgg5,
  z5 := Tryd.sizeOf5,
  v5 := Tryd.zeroValue5,
  t9 := Tryd.underlying9,
  a9 := Tryd.isAgg9,
  z9 := Tryd.sizeOf9,
  v9 := Tryd.zeroValue9,
  t46 := Tryd.underlying122,
  a46 := Tryd.isAgg122,
  z46 := Tryd.sizeOf122,
  v46 := Tryd.zeroValue122,
  t53 := Tryd.underlying113,
  a53 := Tryd.isAgg113,
  z53 := Tryd.sizeOf113,
  v53 := Tryd.zeroValue113 }
def l10U_ren : Go.Shelf.Ren := ⟨fun | 317 => 50 | n => n, fun | 3 => 3 | 46 => 122 | n => n, fun | n => n⟩
theorem l10U : Go.Proofs.Lays.n317 Tryd.prog l10U_ren := {
  mixed := by kernel_rfl,
  f317 := Tryd.func50.trans (congrArg some (by kernel_rfl)),
  t3 := Tryd.underlying3,
  a3 := Tryd.isAgg3,
  z3 := Tryd.sizeOf3,
  v3 := Tryd.zeroValue3,
  t46 := Tryd.underlying122,
  a46 := Tryd.isAgg122,
  z46 := Tryd.sizeOf122,
  v46 := Tryd.zeroValue122 }
def b2U_ren : Go.Shelf.Ren := ⟨fun | 318 => 52 | n => n, fun | 3 => 3 | 4 => 4 | n => n, fun | n => n⟩
theorem b2U : Go.Proofs.Lays.n318 Tryd.prog b2U_ren := {
  mixed := by kernel_rfl,
  f318 := Tryd.func52.trans (congrArg some (by kernel_rfl)),
  t3 := Tryd.underlying3,
  a3 := Tryd.isAgg3,
  z3 := Tryd.sizeOf3,
  v3 := Tryd.zeroValue3,
  t4 := Tryd.underlying4,
  a4 := Tryd.isAgg4,
  z4 := Tryd.sizeOf4,
  v4 := Tryd.zeroValue4 }
end Go.Proofs.YtpkfgjloepbfpaaDoor
