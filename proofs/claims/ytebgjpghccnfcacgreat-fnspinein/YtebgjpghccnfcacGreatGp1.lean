/- A closed fact on the program that the rows' frames lean on. -/
import Derived.Test.YtebgjpghccnfcacGreatRows
import Derived.JoinedOf
import Derived.KernelRfl
/-! A closed fact on the program that the rows' frames lean on. -/
namespace Go.Proofs.YtebgjpghccnfcacGreat
theorem pfLaid : laidOutB Tryz.prog = true := by kernel_rfl
end Go.Proofs.YtebgjpghccnfcacGreat

/-! A closed fact on the program that the rows' frames lean on. -/
namespace Go.Proofs.YtebgjpghccnfcacGreat
theorem pfRowed : mapsRowed Tryz.prog = true := by kernel_rfl
end Go.Proofs.YtebgjpghccnfcacGreat

/-! A closed fact on the program that the rows' frames lean on. -/
namespace Go.Proofs.YtebgjpghccnfcacGreat
theorem pfHeard : Tryz.prog.stopsHeard = true := by kernel_rfl
end Go.Proofs.YtebgjpghccnfcacGreat
