/- A closed fact on the program that the rows' frames lean on. -/
import Derived.Test.YtbmdfmboabfceaaRows
import Derived.JoinedOf
import Derived.KernelRfl
/-! A closed fact on the program that the rows' frames lean on. -/
namespace Go.Proofs.Ytbmdfmboabfceaa
theorem pfLaid : laidOutB Try.prog = true := by kernel_rfl
end Go.Proofs.Ytbmdfmboabfceaa

/-! A closed fact on the program that the rows' frames lean on. -/
namespace Go.Proofs.Ytbmdfmboabfceaa
theorem pfRowed : mapsRowed Try.prog = true := by kernel_rfl
end Go.Proofs.Ytbmdfmboabfceaa

/-! A closed fact on the program that the rows' frames lean on. -/
namespace Go.Proofs.Ytbmdfmboabfceaa
theorem pfHeard : Try.prog.stopsHeard = true := by kernel_rfl
end Go.Proofs.Ytbmdfmboabfceaa
