/- Contracts of SetEach in the form in which the laws use them. -/
import Derived.Test.YtbmdfmboabfceaaGu0
import Derived.Test.YtbmdfmboabfceaaGk2
import Derived.Test.YtbmdfmboabfceaaGt6
namespace Go.Proofs.Ytbmdfmboabfceaa
open Go.RowKit

theorem implSetEach_k {l L : List It} {how : Int} (e : eachS l how = L) {v : Value} {w : World} (h : Is w v l) : Calls Try.prog 72 #[v, .int .i64 how] w fun e w' => ∃ o : Value, e = .returned o ∧ Is w' o L ∧ Below w.heap.size w w' :=
  ofOwnI e (by have := each_lenS l how; omega) (implSetEach_any v l how w h)
theorem specSetEach_k {l L : List It} {how : Int} (e : eachS l how = L) {v : Value} {w : World} (h : Is w v l) : Calls Try.prog 73 #[v, .int .i64 how] w fun e w' => ∃ o : Value, e = .returned o ∧ Is w' o L ∧ Below w.heap.size w w' :=
  ofOwnI e (by have := each_lenS l how; omega) (specSetEach_any v l how w h)
theorem implSetCount_k {l L : List It} (e : countS l = L) {v : Value} {w : World} (h : Is w v l) : Calls Try.prog 85 #[v] w fun e w' => ∃ o : Value, e = .returned o ∧ Is w' o L ∧ Below w.heap.size w w' :=
  ofOwnI e (by have := countS_len l; omega) (implSetCount_any v l w h)
end Go.Proofs.Ytbmdfmboabfceaa
