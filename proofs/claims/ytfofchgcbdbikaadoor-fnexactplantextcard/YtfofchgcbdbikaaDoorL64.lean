/- Contracts of the library laid at this seat's functions. -/
import Derived.Shelf.Strconv.Itoa3
import Derived.Test.YtfofchgcbdbikaaDoorRows
namespace Go.Proofs.YtfofchgcbdbikaaDoor
open Go.Shelf
def lenU_ren : Go.Shelf.Ren := ⟨fun | 129 => 88 | n => n, fun | 53 => 147 | 3 => 3 | 4 => 4 | 46 => 116 | 5 => 5 | 9 => 9 | n => n, fun | n => n⟩
theorem lenU : Go.Proofs.Lays.n129 Tryd.prog lenU_ren := {
  mixed := by kernel_rfl,
  f129 := Tryd.func88.trans (congrArg some (by kernel_rfl)),
  t3 := Tryd.underlying3,
  a3 := Tryd.isAgg3,
  z3 := Tryd.sizeOf3,
  v3 := Tryd.zeroValue3,
  t4 := Tryd.underlying4,
  a4 := Tryd.isAgg4,
  z4 := Tryd.sizeOf4,
  v4 := Tryd.zeroValue4,
  t5 := Tryd.underlying5,
  a5 := Tryd.isAgg5,
  z5 := Tryd.sizeOf5,
  v5 := Tryd.zeroValue5,
  t9 := Tryd.underlying9,
  a9 := Tryd.isAgg9,
  z9 := Tryd.sizeOf9,
  v9 := Tryd.zeroValue9,
  t46 := Tryd.underlying116,
  a46 := Tryd.isAgg116,
  z46 := Tryd.sizeOf116,
  v46 := Tryd.zeroValue116,
  t53 := Tryd.underlying147,
  a53 := Tryd.isAgg147,
  z53 := Tryd.sizeOf147,
  v53 := Tryd.zeroValue147 }
def l10U_ren : Go.Shelf.Ren := ⟨fun | 317 => 87 | n => n, fun | 3 => 3 | 46 => 116 | n => n, fun | n => n⟩
theorem l10U : Go.Proofs.Lays.n317 Tryd.prog l10U_ren := {
  mixed := by kernel_rfl,
  f317 := Tryd.func87.trans (congrArg some (by kernel_rfl)),
  t3 := Tryd.underlying3,
  a3 := Tryd.isAgg3,
  z3 := Tryd.sizeOf3,
  v3 := Tryd.zeroValue3,
  t46 := Tryd.underlying116,
  a46 := Tryd.isAgg116,
  z46 := Tryd.sizeOf116,
  v46 := Tryd.zeroValue116 }
def b2U_ren : Go.Shelf.Ren := ⟨fun | 318 => 89 | n => n, fun | 3 => 3 | 4 => 4 | n => n, fun | n => n⟩
theorem b2U : Go.Proofs.Lays.n318 Tryd.prog b2U_ren := {
  mixed := by kernel_rfl,
  f318 := Tryd.func89.trans (congrArg some (by kernel_rfl)),
  t3 := Tryd.underlying3,
  a3 := Tryd.isAgg3,
  z3 := Tryd.sizeOf3,
  v3 := Tryd.zeroValue3,
  t4 := Tryd.underlying4,
  a4 := Tryd.isAgg4,
  z4 := Tryd.sizeOf4,
  v4 := Tryd.zeroValue4 }
end Go.Proofs.YtfofchgcbdbikaaDoor
