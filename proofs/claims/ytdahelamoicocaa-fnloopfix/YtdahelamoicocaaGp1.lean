/- A closed fact on the program that the rows' frames lean on. -/
import Derived.Test.YtdahelamoicocaaRows
import Derived.JoinedOf
import Derived.KernelRfl
/-! A closed fact on the program that the rows' frames lean on. -/
namespace Go.Proofs.Ytdahelamoicocaa
theorem pfLaid : laidOutB Try.prog = true := by kernel_rfl
end Go.Proofs.Ytdahelamoicocaa

/-! A closed fact on the program that the rows' frames lean on. -/
namespace Go.Proofs.Ytdahelamoicocaa
theorem pfRowed : mapsRowed Try.prog = true := by kernel_rfl
end Go.Proofs.Ytdahelamoicocaa

/-! A closed fact on the program that the rows' frames lean on. -/
namespace Go.Proofs.Ytdahelamoicocaa
theorem pfHeard : Try.prog.stopsHeard = true := by kernel_rfl
end Go.Proofs.Ytdahelamoicocaa
