/- A closed fact on the program that the rows' frames lean on. -/
import Derived.Test.YtdbhgocaelmanaaRows
import Derived.JoinedOf
import Derived.KernelRfl
/-! A closed fact on the program that the rows' frames lean on. -/
namespace Go.Proofs.Ytdbhgocaelmanaa
theorem pfLaid : laidOutB Try.prog = true := by kernel_rfl
end Go.Proofs.Ytdbhgocaelmanaa

/-! A closed fact on the program that the rows' frames lean on. -/
namespace Go.Proofs.Ytdbhgocaelmanaa
theorem pfRowed : mapsRowed Try.prog = true := by kernel_rfl
end Go.Proofs.Ytdbhgocaelmanaa

/-! A closed fact on the program that the rows' frames lean on. -/
namespace Go.Proofs.Ytdbhgocaelmanaa
theorem pfHeard : Try.prog.stopsHeard = true := by kernel_rfl
end Go.Proofs.Ytdbhgocaelmanaa
