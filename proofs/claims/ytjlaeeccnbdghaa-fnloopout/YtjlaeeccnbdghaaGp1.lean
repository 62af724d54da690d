/- A closed fact on the program that the rows' frames lean on. -/
import Derived.Test.YtjlaeeccnbdghaaRows
import Derived.JoinedOf
import Derived.KernelRfl
/-! A closed fact on the program that the rows' frames lean on. -/
namespace Go.Proofs.Ytjlaeeccnbdghaa
theorem pfLaid : laidOutB Try.prog = true := by kernel_rfl
end Go.Proofs.Ytjlaeeccnbdghaa

/-! A closed fact on the program that the rows' frames lean on. -/
namespace Go.Proofs.Ytjlaeeccnbdghaa
theorem pfRowed : mapsRowed Try.prog = true := by kernel_rfl
end Go.Proofs.Ytjlaeeccnbdghaa

/-! A closed fact on the program that the rows' frames lean on. -/
namespace Go.Proofs.Ytjlaeeccnbdghaa
theorem pfHeard : Try.prog.stopsHeard = true := by kernel_rfl
end Go.Proofs.Ytjlaeeccnbdghaa
