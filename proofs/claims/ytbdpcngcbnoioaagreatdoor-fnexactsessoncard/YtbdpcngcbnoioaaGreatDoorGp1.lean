import Derived.Test.YtbdpcngcbnoioaaGreatDoorRows
import Derived.JoinedOf
namespace Go.Proofs.YtbdpcngcbnoioaaGreatDoor
theorem pfLaid:laidOutB Tryz.prog=true:=by kernel_rfl
theorem pfRowed:mapsRowed Tryz.prog=true:=by kernel_rfl
theorem pfHeard:Tryz.prog.stopsHeard=true:=by kernel_rfl
end Go.Proofs.YtbdpcngcbnoioaaGreatDoor
