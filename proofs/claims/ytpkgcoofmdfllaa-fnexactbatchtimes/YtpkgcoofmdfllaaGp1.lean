/- A closed fact on the program that the rows' frames lean on. -/
import Derived.Test.YtpkgcoofmdfllaaRows
import Derived.JoinedOf
import Derived.KernelRfl
/-! A closed fact on the program that the rows' frames lean on. -/
namespace Go.Proofs.Ytpkgcoofmdfllaa
theorem pfLaid : laidOutB Try.prog = true := by kernel_rfl
end Go.Proofs.Ytpkgcoofmdfllaa

/-! A closed fact on the program that the rows' frames lean on. -/
namespace Go.Proofs.Ytpkgcoofmdfllaa
theorem pfRowed : mapsRowed Try.prog = true := by kernel_rfl
end Go.Proofs.Ytpkgcoofmdfllaa

/-! A closed fact on the program that the rows' frames lean on. -/
namespace Go.Proofs.Ytpkgcoofmdfllaa
theorem pfHeard : Try.prog.stopsHeard = true := by kernel_rfl
end Go.Proofs.Ytpkgcoofmdfllaa
