/- Contracts of FlowJoin in the form in which the laws use them. -/
import Derived.Test.YtlddhfimiignaaaGk2
import Derived.Test.YtlddhfimiignaaaGj5
namespace Go.Proofs.Ytlddhfimiignaaa
open Go.RowKit

theorem implFlowJoin_k {s t L : List Rw} (e : fjoinL s t = L) {v u : Value} {w : World} (h : Rs w v s) (h' : Rs w u t) : Calls Try.prog 32 #[v, u] w fun e w' => ∃ o : Value, e = .returned o ∧ Rs w' o L ∧ Below w.heap.size w w' :=
  ofOwnR e (by have := fjoin_len s t; omega) (implFlowJoin_any v u s t w h h')
theorem specFlowJoin_k {s t L : List Rw} (e : fjoinL s t = L) {v u : Value} {w : World} (h : Rs w v s) (h' : Rs w u t) : Calls Try.prog 33 #[v, u] w fun e w' => ∃ o : Value, e = .returned o ∧ Rs w' o L ∧ Below w.heap.size w w' :=
  ofOwnR e (by have := fjoin_len s t; omega) (specFlowJoin_any v u s t w h h')
end Go.Proofs.Ytlddhfimiignaaa
