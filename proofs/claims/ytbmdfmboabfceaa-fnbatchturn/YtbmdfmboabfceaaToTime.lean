/- What the laws' own small functions on times answer: contracts. -/
import Derived.Test.YtbmdfmboabfceaaTimeA
namespace Go.Proofs.Ytbmdfmboabfceaa
open Go.RowKit
def eqB (a b c d : Int) : Bool := decide (a = c ∧ b = d)
theorem eqB_self (a b : Int) : eqB a b a b = true := by simp [eqB]
end Go.Proofs.Ytbmdfmboabfceaa
