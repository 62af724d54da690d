/- A closed fact on the program that the rows' frames lean on. -/
import Derived.Test.YtjmkcdlkmkhaiaaRows
import Derived.JoinedOf
import Derived.KernelRfl
/-! A closed fact on the program that the rows' frames lean on. -/
namespace Go.Proofs.Ytjmkcdlkmkhaiaa
theorem pfLaid : laidOutB Try.prog = true := by kernel_rfl
end Go.Proofs.Ytjmkcdlkmkhaiaa

/-! A closed fact on the program that the rows' frames lean on. -/
namespace Go.Proofs.Ytjmkcdlkmkhaiaa
theorem pfRowed : mapsRowed Try.prog = true := by kernel_rfl
end Go.Proofs.Ytjmkcdlkmkhaiaa

/-! A closed fact on the program that the rows' frames lean on. -/
namespace Go.Proofs.Ytjmkcdlkmkhaiaa
theorem pfHeard : Try.prog.stopsHeard = true := by kernel_rfl
end Go.Proofs.Ytjmkcdlkmkhaiaa
