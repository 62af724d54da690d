/- A closed fact on the program that the rows' frames lean on. -/
import Derived.Test.YtecgpnmnknlbpaaRows
import Derived.JoinedOf
import Derived.KernelRfl
/-! A closed fact on the program that the rows' frames lean on. -/
namespace Go.Proofs.Ytecgpnmnknlbpaa
theorem pfLaid : laidOutB Try.prog = true := by kernel_rfl
end Go.Proofs.Ytecgpnmnknlbpaa

/-! A closed fact on the program that the rows' frames lean on. -/
namespace Go.Proofs.Ytecgpnmnknlbpaa
theorem pfRowed : mapsRowed Try.prog = true := by kernel_rfl
end Go.Proofs.Ytecgpnmnknlbpaa

/-! A closed fact on the program that the rows' frames lean on. -/
namespace Go.Proofs.Ytecgpnmnknlbpaa
theorem pfHeard : Try.prog.stopsHeard = true := by kernel_rfl
end Go.Proofs.Ytecgpnmnknlbpaa
