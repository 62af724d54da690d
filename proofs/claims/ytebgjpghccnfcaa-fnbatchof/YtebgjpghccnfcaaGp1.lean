/- A closed fact on the program that the rows' frames lean on. -/
import Derived.Test.YtebgjpghccnfcaaRows
import Derived.JoinedOf
import Derived.KernelRfl
/-! A closed fact on the program that the rows' frames lean on. -/
namespace Go.Proofs.Ytebgjpghccnfcaa
theorem pfLaid : laidOutB Try.prog = true := by kernel_rfl
end Go.Proofs.Ytebgjpghccnfcaa

/-! A closed fact on the program that the rows' frames lean on. -/
namespace Go.Proofs.Ytebgjpghccnfcaa
theorem pfRowed : mapsRowed Try.prog = true := by kernel_rfl
end Go.Proofs.Ytebgjpghccnfcaa

/-! A closed fact on the program that the rows' frames lean on. -/
namespace Go.Proofs.Ytebgjpghccnfcaa
theorem pfHeard : Try.prog.stopsHeard = true := by kernel_rfl
end Go.Proofs.Ytebgjpghccnfcaa
