/- Contracts of the library laid at this seat's functions. -/
import Derived.Shelf.Spec.SlicesGrow
import Derived.Test.YtdahelamoicocaaRows
namespace Go.Proofs.Ytdahelamoicocaa
open Go.Shelf

end Go.Proofs.Ytdahelamoicocaa
