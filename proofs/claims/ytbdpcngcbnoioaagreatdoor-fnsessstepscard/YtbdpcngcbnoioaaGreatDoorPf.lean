import Derived.Test.YtbdpcngcbnoioaaGreatDoorGp1
import Derived.Test.YtbdpcngcbnoioaaGreatDoorPfd
namespace Go.Proofs.YtbdpcngcbnoioaaGreatDoor
theorem gR {a b:Bool}(h:a=true)(k:b=true):(a&&b)=true:=by rw[h,k];rfl
theorem MZ {x:Bool}(h:x=false):(x==Tryz.prog.liftsFinal)=true:=by rw[pfLift,h];rfl
theorem MH {x:Make}(h:x=.cut):(Tryz.prog.make==some x)=true:=by rw[pfMake,h];decide
end Go.Proofs.YtbdpcngcbnoioaaGreatDoor
