import Derived.Test.YtbdpcngcbnoioaaDoorGs2
import Derived.RangeFuncNested
import Derived.RangeFuncBound
import Derived.RangeFuncCalls
import Derived.RangeFuncLeaves
import Derived.Shelf.Abstract
import Derived.Shelf.RegionOpen
import Derived.WalkKit
import Derived.OwnWalkIn
import Derived.TacticsInMore
import Derived.LoopNIn
import Derived.LoopIn
namespace Go.Proofs.YtbdpcngcbnoioaaDoor
open Go.RowKit
open Go.ChangeMaps (setBlock)
open Go.Shelf
open Go.ChangeMaps (setBlock)
attribute [local go_sem] Oper.semAt_some
open Go.ChangeMaps (setBlock)
attribute [local go_sem] Oper.semAt_some
end Go.Proofs.YtbdpcngcbnoioaaDoor
