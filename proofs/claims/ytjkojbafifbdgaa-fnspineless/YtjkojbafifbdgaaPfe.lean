/- Closed facts on the program that the rows' frames lean on. -/
import Derived.Test.YtjkojbafifbdgaaRows
import Derived.JoinedOf
import Derived.KernelRfl
namespace Go.Proofs.Ytjkojbafifbdgaa
theorem pfLater : Try.prog.laysLater = false := by kernel_rfl
theorem pfReflect : Try.prog.bearsReflect = false := by kernel_rfl
theorem pfDoor : Try.prog.doorFits [] = true := by kernel_rfl
end Go.Proofs.Ytjkojbafifbdgaa
