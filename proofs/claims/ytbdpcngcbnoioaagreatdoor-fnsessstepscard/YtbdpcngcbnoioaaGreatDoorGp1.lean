import Derived.Test.YtbdpcngcbnoioaaGreatDoorRows
import Derived.JoinedOf
namespace Go.Proofs.YtbdpcngcbnoioaaGreatDoor
theorem xN:laidOutB Tryz.prog=true:=by kernel_rfl
theorem M9:mapsRowed Tryz.prog=true:=by kernel_rfl
theorem Mx:Tryz.prog.stopsHeard=true:=by kernel_rfl
end Go.Proofs.YtbdpcngcbnoioaaGreatDoor
