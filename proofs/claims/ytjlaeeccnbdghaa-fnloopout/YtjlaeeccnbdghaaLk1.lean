/- What lacks at a time of all that was told: the contract. -/
import Derived.Test.YtjlaeeccnbdghaaLk0
import Derived.Test.YtjlaeeccnbdghaaGs7
import Derived.Test.YtjlaeeccnbdghaaGtX
import Derived.BigRegionIn
import Derived.Sort.CutIn
namespace Go.Proofs.Ytjlaeeccnbdghaa
open Go.RowKit Go.Shelf
open Go.ChangeMaps (setBlock)
attribute [local go_sem] Oper.semAt_some

/-- What lacks: what is there, less all that was told by then. -/
def lackL (C : List Rw) (X Y : Int) (I : List It) : List It := sumL ltT (I ++ negI (atL C X Y))
end Go.Proofs.Ytjlaeeccnbdghaa
