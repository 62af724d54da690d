/- Contracts of the library laid at this seat's functions. -/
import Derived.Shelf.Spec.SlicesGrow
import Derived.Test.YtjlaeeccnbdghaaRows
namespace Go.Proofs.Ytjlaeeccnbdghaa
open Go.Shelf

end Go.Proofs.Ytjlaeeccnbdghaa
