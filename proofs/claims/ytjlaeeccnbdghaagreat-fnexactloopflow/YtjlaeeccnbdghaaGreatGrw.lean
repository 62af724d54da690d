/- Contracts of the library laid at this seat's functions. -/
import Derived.Shelf.Spec.SlicesGrow
import Derived.Test.YtjlaeeccnbdghaaGreatRows
namespace Go.Proofs.YtjlaeeccnbdghaaGreat
open Go.Shelf

end Go.Proofs.YtjlaeeccnbdghaaGreat
