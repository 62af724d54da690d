/- The contract of SetLeast in the form in which the laws use it. -/
import Derived.Test.YtbmdfmboabfceaaGt10
import Derived.Test.YtbmdfmboabfceaaGk2
namespace Go.Proofs.Ytbmdfmboabfceaa
open Go.RowKit

theorem implSetLeast_k {l L : List It} (e : leastS l = L) {v : Value} {w : World} (h : Is w v l) : Calls Try.prog 91 #[v] w fun e w' => ∃ o : Value, e = .returned o ∧ Is w' o L ∧ Below w.heap.size w w' :=
  ofOwnI e (by have := leastS_len l; omega) (implSetLeast_any v l w h)
end Go.Proofs.Ytbmdfmboabfceaa
