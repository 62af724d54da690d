/- A closed fact on the program that the rows' frames lean on. -/
import Derived.Test.YtebgjpghccnfcabRows
import Derived.JoinedOf
import Derived.KernelRfl
/-! A closed fact on the program that the rows' frames lean on. -/
namespace Go.Proofs.Ytebgjpghccnfcab
theorem pfLaid : laidOutB Try.prog = true := by kernel_rfl
end Go.Proofs.Ytebgjpghccnfcab

/-! A closed fact on the program that the rows' frames lean on. -/
namespace Go.Proofs.Ytebgjpghccnfcab
theorem pfRowed : mapsRowed Try.prog = true := by kernel_rfl
end Go.Proofs.Ytebgjpghccnfcab

/-! A closed fact on the program that the rows' frames lean on. -/
namespace Go.Proofs.Ytebgjpghccnfcab
theorem pfHeard : Try.prog.stopsHeard = true := by kernel_rfl
end Go.Proofs.Ytebgjpghccnfcab
