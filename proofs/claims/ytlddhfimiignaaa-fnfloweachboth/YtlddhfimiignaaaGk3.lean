/- Contracts of SetEach in the form in which the laws use them. -/
import Derived.Test.YtlddhfimiignaaaGu0
import Derived.Test.YtlddhfimiignaaaGk2
import Derived.Test.YtlddhfimiignaaaGt6
namespace Go.Proofs.Ytlddhfimiignaaa
open Go.RowKit

theorem implSetEach_k {l L : List It} {how : Int} (e : eachS l how = L) {v : Value} {w : World} (h : Is w v l) : Calls Try.prog 30 #[v, .int .i64 how] w fun e w' => ∃ o : Value, e = .returned o ∧ Is w' o L ∧ Below w.heap.size w w' :=
  ofOwnI e (by have := each_lenS l how; omega) (implSetEach_any v l how w h)
end Go.Proofs.Ytlddhfimiignaaa
