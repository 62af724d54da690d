/- A closed fact on the program that the rows' frames lean on. -/
import Derived.Test.YtjkojbafifbdgaaRows
import Derived.JoinedOf
import Derived.KernelRfl
/-! A closed fact on the program that the rows' frames lean on. -/
namespace Go.Proofs.Ytjkojbafifbdgaa
theorem pfLaid : laidOutB Try.prog = true := by kernel_rfl
end Go.Proofs.Ytjkojbafifbdgaa

/-! A closed fact on the program that the rows' frames lean on. -/
namespace Go.Proofs.Ytjkojbafifbdgaa
theorem pfRowed : mapsRowed Try.prog = true := by kernel_rfl
end Go.Proofs.Ytjkojbafifbdgaa

/-! A closed fact on the program that the rows' frames lean on. -/
namespace Go.Proofs.Ytjkojbafifbdgaa
theorem pfHeard : Try.prog.stopsHeard = true := by kernel_rfl
end Go.Proofs.Ytjkojbafifbdgaa
