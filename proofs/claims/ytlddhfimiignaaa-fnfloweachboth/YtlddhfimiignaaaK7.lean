/- Contracts of FlowEach and FlowJoin of the model in the form in which the laws use them. -/
import Derived.Test.YtlddhfimiignaaaGk3
import Derived.Test.YtlddhfimiignaaaFe2
import Derived.Test.YtlddhfimiignaaaFe3
namespace Go.Proofs.Ytlddhfimiignaaa
open Go.RowKit

theorem implFlowEach_k {l L : List Rw} {how : Int} (e : feachL l how = L) {v : Value} {w : World} (h : Rs w v l) : Calls Try.prog 24 #[v, .int .i64 how] w fun e w' => ∃ o : Value, e = .returned o ∧ Rs w' o L ∧ Below w.heap.size w w' :=
  ofOwnR e (by have := feach_len l how; omega) (implFlowEach_any v l how w h)
theorem specFlowEach_k {l L : List Rw} {how : Int} (e : feachL l how = L) {v : Value} {w : World} (h : Rs w v l) : Calls Try.prog 26 #[v, .int .i64 how] w fun e w' => ∃ o : Value, e = .returned o ∧ Rs w' o L ∧ Below w.heap.size w w' :=
  ofOwnR e (by have := feach_len l how; omega) (specFlowEach_any v l how w h)
end Go.Proofs.Ytlddhfimiignaaa
