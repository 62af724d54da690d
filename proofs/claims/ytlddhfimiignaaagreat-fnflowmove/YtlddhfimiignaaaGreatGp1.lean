/- A closed fact on the program that the rows' frames lean on. -/
import Derived.Test.YtlddhfimiignaaaGreatRows
import Derived.JoinedOf
import Derived.KernelRfl
/-! A closed fact on the program that the rows' frames lean on. -/
namespace Go.Proofs.YtlddhfimiignaaaGreat
theorem pfLaid : laidOutB Tryz.prog = true := by kernel_rfl
end Go.Proofs.YtlddhfimiignaaaGreat

/-! A closed fact on the program that the rows' frames lean on. -/
namespace Go.Proofs.YtlddhfimiignaaaGreat
theorem pfRowed : mapsRowed Tryz.prog = true := by kernel_rfl
end Go.Proofs.YtlddhfimiignaaaGreat

/-! A closed fact on the program that the rows' frames lean on. -/
namespace Go.Proofs.YtlddhfimiignaaaGreat
theorem pfHeard : Tryz.prog.stopsHeard = true := by kernel_rfl
end Go.Proofs.YtlddhfimiignaaaGreat
