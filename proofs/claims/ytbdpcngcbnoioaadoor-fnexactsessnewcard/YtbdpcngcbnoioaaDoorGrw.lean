/- Contracts of the library laid at this seat's functions. -/
import Derived.Shelf.Spec.SlicesGrow
import Derived.Test.YtbdpcngcbnoioaaDoorRows
namespace Go.Proofs.YtbdpcngcbnoioaaDoor
open Go.Shelf

end Go.Proofs.YtbdpcngcbnoioaaDoor
