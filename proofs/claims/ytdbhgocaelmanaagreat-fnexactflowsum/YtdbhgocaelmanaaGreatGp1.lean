/- A closed fact on the program that the rows' frames lean on. -/
import Derived.Test.YtdbhgocaelmanaaGreatRows
import Derived.JoinedOf
import Derived.KernelRfl
/-! A closed fact on the program that the rows' frames lean on. -/
namespace Go.Proofs.YtdbhgocaelmanaaGreat
theorem pfLaid : laidOutB Tryz.prog = true := by kernel_rfl
end Go.Proofs.YtdbhgocaelmanaaGreat

/-! A closed fact on the program that the rows' frames lean on. -/
namespace Go.Proofs.YtdbhgocaelmanaaGreat
theorem pfRowed : mapsRowed Tryz.prog = true := by kernel_rfl
end Go.Proofs.YtdbhgocaelmanaaGreat

/-! A closed fact on the program that the rows' frames lean on. -/
namespace Go.Proofs.YtdbhgocaelmanaaGreat
theorem pfHeard : Tryz.prog.stopsHeard = true := by kernel_rfl
end Go.Proofs.YtdbhgocaelmanaaGreat
