/- A closed fact on the program that the rows' frames lean on. -/
import Derived.Test.YtjlaeeccnbdghaaGreatRows
import Derived.JoinedOf
import Derived.KernelRfl
/-! A closed fact on the program that the rows' frames lean on. -/
namespace Go.Proofs.YtjlaeeccnbdghaaGreat
theorem pfLaid : laidOutB Tryz.prog = true := by kernel_rfl
end Go.Proofs.YtjlaeeccnbdghaaGreat

/-! A closed fact on the program that the rows' frames lean on. -/
namespace Go.Proofs.YtjlaeeccnbdghaaGreat
theorem pfRowed : mapsRowed Tryz.prog = true := by kernel_rfl
end Go.Proofs.YtjlaeeccnbdghaaGreat

/-! A closed fact on the program that the rows' frames lean on. -/
namespace Go.Proofs.YtjlaeeccnbdghaaGreat
theorem pfHeard : Tryz.prog.stopsHeard = true := by kernel_rfl
end Go.Proofs.YtjlaeeccnbdghaaGreat
