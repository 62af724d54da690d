/- SpineSince of the program: the contract. -/
import Derived.Test.YtjkojbafifbdgaaZq0
namespace Go.Proofs.Ytjkojbafifbdgaa
open Go.RowKit Go.Shelf

end Go.Proofs.Ytjkojbafifbdgaa
