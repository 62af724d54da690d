/- A closed fact on the program that the rows' frames lean on. -/
import Derived.Test.YtecgpnmnknlbpaaGreatRows
import Derived.JoinedOf
import Derived.KernelRfl
/-! A closed fact on the program that the rows' frames lean on. -/
namespace Go.Proofs.YtecgpnmnknlbpaaGreat
theorem pfLaid : laidOutB Tryz.prog = true := by kernel_rfl
end Go.Proofs.YtecgpnmnknlbpaaGreat

/-! A closed fact on the program that the rows' frames lean on. -/
namespace Go.Proofs.YtecgpnmnknlbpaaGreat
theorem pfRowed : mapsRowed Tryz.prog = true := by kernel_rfl
end Go.Proofs.YtecgpnmnknlbpaaGreat

/-! A closed fact on the program that the rows' frames lean on. -/
namespace Go.Proofs.YtecgpnmnknlbpaaGreat
theorem pfHeard : Tryz.prog.stopsHeard = true := by kernel_rfl
end Go.Proofs.YtecgpnmnknlbpaaGreat
