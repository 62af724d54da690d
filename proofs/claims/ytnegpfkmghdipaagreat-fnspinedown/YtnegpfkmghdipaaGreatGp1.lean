/- A closed fact on the program that the rows' frames lean on. -/
import Derived.Test.YtnegpfkmghdipaaGreatRows
import Derived.JoinedOf
import Derived.KernelRfl
/-! A closed fact on the program that the rows' frames lean on. -/
namespace Go.Proofs.YtnegpfkmghdipaaGreat
theorem pfLaid : laidOutB Tryz.prog = true := by kernel_rfl
end Go.Proofs.YtnegpfkmghdipaaGreat

/-! A closed fact on the program that the rows' frames lean on. -/
namespace Go.Proofs.YtnegpfkmghdipaaGreat
theorem pfRowed : mapsRowed Tryz.prog = true := by kernel_rfl
end Go.Proofs.YtnegpfkmghdipaaGreat

/-! A closed fact on the program that the rows' frames lean on. -/
namespace Go.Proofs.YtnegpfkmghdipaaGreat
theorem pfHeard : Tryz.prog.stopsHeard = true := by kernel_rfl
end Go.Proofs.YtnegpfkmghdipaaGreat
