/- Closed facts on the program that the rows' frames lean on. -/
import Derived.Test.YtbdpcngcbnoioaaGreatDoorRows
import Derived.JoinedOf
import Derived.KernelRfl
namespace Go.Proofs.YtbdpcngcbnoioaaGreatDoor
theorem pfLater : Tryz.prog.laysLater = false := by kernel_rfl
theorem pfReflect : Tryz.prog.bearsReflect = false := by kernel_rfl
theorem pfDoor : Tryz.prog.doorFits [] = true := by kernel_rfl
end Go.Proofs.YtbdpcngcbnoioaaGreatDoor
