/- A closed fact on the program that the rows' frames lean on. -/
import Derived.Test.YtlddhfimiignaaaRows
import Derived.JoinedOf
import Derived.KernelRfl
/-! A closed fact on the program that the rows' frames lean on. -/
namespace Go.Proofs.Ytlddhfimiignaaa
theorem pfLaid : laidOutB Try.prog = true := by kernel_rfl
end Go.Proofs.Ytlddhfimiignaaa

/-! A closed fact on the program that the rows' frames lean on. -/
namespace Go.Proofs.Ytlddhfimiignaaa
theorem pfRowed : mapsRowed Try.prog = true := by kernel_rfl
end Go.Proofs.Ytlddhfimiignaaa

/-! A closed fact on the program that the rows' frames lean on. -/
namespace Go.Proofs.Ytlddhfimiignaaa
theorem pfHeard : Try.prog.stopsHeard = true := by kernel_rfl
end Go.Proofs.Ytlddhfimiignaaa
