/- A closed fact on the program that the rows' frames lean on. -/
import Derived.Test.YtpjmkejojenflaaGreatRows
import Derived.JoinedOf
import Derived.KernelRfl
/-! A closed fact on the program that the rows' frames lean on. -/
namespace Go.Proofs.YtpjmkejojenflaaGreat
theorem pfLaid : laidOutB Tryz.prog = true := by kernel_rfl
end Go.Proofs.YtpjmkejojenflaaGreat

/-! A closed fact on the program that the rows' frames lean on. -/
namespace Go.Proofs.YtpjmkejojenflaaGreat
theorem pfRowed : mapsRowed Tryz.prog = true := by kernel_rfl
end Go.Proofs.YtpjmkejojenflaaGreat

/-! A closed fact on the program that the rows' frames lean on. -/
namespace Go.Proofs.YtpjmkejojenflaaGreat
theorem pfHeard : Tryz.prog.stopsHeard = true := by kernel_rfl
end Go.Proofs.YtpjmkejojenflaaGreat
