/- A closed fact on the program that the rows' frames lean on. -/
import Derived.Test.YtjkojbafifbdgaaGreatRows
import Derived.JoinedOf
import Derived.KernelRfl
/-! A closed fact on the program that the rows' frames lean on. -/
namespace Go.Proofs.YtjkojbafifbdgaaGreat
theorem pfLaid : laidOutB Tryz.prog = true := by kernel_rfl
end Go.Proofs.YtjkojbafifbdgaaGreat

/-! A closed fact on the program that the rows' frames lean on. -/
namespace Go.Proofs.YtjkojbafifbdgaaGreat
theorem pfRowed : mapsRowed Tryz.prog = true := by kernel_rfl
end Go.Proofs.YtjkojbafifbdgaaGreat

/-! A closed fact on the program that the rows' frames lean on. -/
namespace Go.Proofs.YtjkojbafifbdgaaGreat
theorem pfHeard : Tryz.prog.stopsHeard = true := by kernel_rfl
end Go.Proofs.YtjkojbafifbdgaaGreat
