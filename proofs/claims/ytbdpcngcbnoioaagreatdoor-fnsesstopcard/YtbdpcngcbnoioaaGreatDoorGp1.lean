import Derived.Test.YtbdpcngcbnoioaaGreatDoorRows
import Derived.JoinedOf
namespace Go.Proofs.YtbdpcngcbnoioaaGreatDoor
theorem Bd:laidOutB Tryz.prog=true:=by kernel_rfl
theorem PE:mapsRowed Tryz.prog=true:=by kernel_rfl
theorem P8:Tryz.prog.stopsHeard=true:=by kernel_rfl
end Go.Proofs.YtbdpcngcbnoioaaGreatDoor
