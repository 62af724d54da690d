/- Contracts of FlowJoin in the form in which the laws use them. -/
import Derived.Test.YtlddhfimiignaaaGreatGk2
import Derived.Test.YtlddhfimiignaaaGreatGj5
namespace Go.Proofs.YtlddhfimiignaaaGreat
open Go.RowKit

theorem implFlowJoin_k {s t L : List Rw} (e : fjoinL s t = L) {v u : Value} {w : World} (h : Rs w v s) (h' : Rs w u t) : Calls Tryz.prog 24 #[v, u] w fun e w' => ∃ o : Value, e = .returned o ∧ Rs w' o L ∧ Below w.heap.size w w' :=
  ofOwnR e (by have := fjoin_len s t; omega) (implFlowJoin_any v u s t w h h')
theorem specFlowJoin_k {s t L : List Rw} (e : fjoinL s t = L) {v u : Value} {w : World} (h : Rs w v s) (h' : Rs w u t) : Calls Tryz.prog 25 #[v, u] w fun e w' => ∃ o : Value, e = .returned o ∧ Rs w' o L ∧ Below w.heap.size w w' :=
  ofOwnR e (by have := fjoin_len s t; omega) (specFlowJoin_any v u s t w h h')
end Go.Proofs.YtlddhfimiignaaaGreat
