import Derived.Test.YtbdpcngcbnoioaaGreatDoorZm0
namespace Go.Proofs.YtbdpcngcbnoioaaGreatDoor
open Go.RowKit Go.Shelf
theorem flat_take {L:List (List Rw)} {k:Nat} (hk:k<L.length):(L.take (k+1)).flatten.length=(L.take k).flatten.length+(gl L k).length:=by
 rw [tSz (gl_at hk),List.flatten_append,List.length_append];simp
end Go.Proofs.YtbdpcngcbnoioaaGreatDoor
