import Derived.Test.YtbdpcngcbnoioaaDoorGs7
namespace Go.Proofs.YtbdpcngcbnoioaaDoor
open Go.RowKit
open Go.Shelf
open Go.ChangeMaps (setBlock)
end Go.Proofs.YtbdpcngcbnoioaaDoor
