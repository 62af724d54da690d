/- A closed fact on the program that the rows' frames lean on. -/
import Derived.Test.YtnegpfkmghdipaaRows
import Derived.JoinedOf
import Derived.KernelRfl
/-! A closed fact on the program that the rows' frames lean on. -/
namespace Go.Proofs.Ytnegpfkmghdipaa
theorem pfLaid : laidOutB Try.prog = true := by kernel_rfl
end Go.Proofs.Ytnegpfkmghdipaa

/-! A closed fact on the program that the rows' frames lean on. -/
namespace Go.Proofs.Ytnegpfkmghdipaa
theorem pfRowed : mapsRowed Try.prog = true := by kernel_rfl
end Go.Proofs.Ytnegpfkmghdipaa

/-! A closed fact on the program that the rows' frames lean on. -/
namespace Go.Proofs.Ytnegpfkmghdipaa
theorem pfHeard : Try.prog.stopsHeard = true := by kernel_rfl
end Go.Proofs.Ytnegpfkmghdipaa
