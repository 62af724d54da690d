import Derived.Test.YtdbhgocaelmanaaGreatRows
import Derived.JoinedOf
import Derived.KernelRfl
namespace Go.Proofs.YtdbhgocaelmanaaGreat
theorem pfLaid : laidOutB Tryz.prog = true := by kernel_rfl
end Go.Proofs.YtdbhgocaelmanaaGreat
namespace Go.Proofs.YtdbhgocaelmanaaGreat
theorem pfRowed : mapsRowed Tryz.prog = true := by kernel_rfl
end Go.Proofs.YtdbhgocaelmanaaGreat
namespace Go.Proofs.YtdbhgocaelmanaaGreat
theorem pfHeard : Tryz.prog.stopsHeard = true := by kernel_rfl
end Go.Proofs.YtdbhgocaelmanaaGreat
