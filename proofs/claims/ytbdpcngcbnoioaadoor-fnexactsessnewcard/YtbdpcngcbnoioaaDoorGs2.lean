import Derived.Test.YtbdpcngcbnoioaaDoorRows
import Derived.JoinedOf
import Derived.DeepKeys5
import Derived.WideKeyEntry
import Derived.Maps.RangeWalk
import Derived.Test.YtbdpcngcbnoioaaDoorSrt
import Derived.Test.YtbdpcngcbnoioaaDoorGb3
import Derived.Test.YtbdpcngcbnoioaaDoorGrw
import Derived.Deep.AppendSrc
import Derived.Test.YtbdpcngcbnoioaaDoorGa8
namespace Go.Proofs.YtbdpcngcbnoioaaDoor
end Go.Proofs.YtbdpcngcbnoioaaDoor
namespace Go.Proofs.YtbdpcngcbnoioaaDoor
open Go.RowKit
section
variable {κ:Type} {ek:κ->Value} {ok:κ->Prop} {k e t:TypeId} {w:World} {b:Nat} {M:List (κ×Int)}
open Go.ChangeMaps (setBlock) in
end
open Go.ChangeMaps (setBlock)
open Go.ChangeMaps (setBlock)
open Go.Shelf Go.Lib
end Go.Proofs.YtbdpcngcbnoioaaDoor
namespace Go.Proofs.YtbdpcngcbnoioaaDoor
open Go.RowKit
open Go.ChangeMaps (setBlock)
open Go.Shelf
end Go.Proofs.YtbdpcngcbnoioaaDoor
