/- Contracts of the library laid at this seat's functions. -/
import Derived.Shelf.SlSortCmp.WholeK
import Derived.Test.YtbdpcngcbnoioaaDoorRows
namespace Go.Proofs.YtbdpcngcbnoioaaDoor
open Go.Shelf

end Go.Proofs.YtbdpcngcbnoioaaDoor
