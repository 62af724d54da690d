import Derived.Test.YtpkfgjloepbfpaaGreatDoorRows
import Derived.JoinedOf
namespace Go.Proofs.YtpkfgjloepbfpaaGreatDoor
theorem pfLaid:laidOutB Tryz.prog=true:=by kernel_rfl
end Go.Proofs.YtpkfgjloepbfpaaGreatDoor
