/- Contracts on fronts in the form in which the laws use them. -/
import Derived.Test.YtbmdfmboabfceaaFr22
import Derived.Test.YtbmdfmboabfceaaFr23
namespace Go.Proofs.Ytbmdfmboabfceaa
open Go.RowKit
theorem self_true (l : List (Int × Int)) : decide (l = l) = true := by simp
end Go.Proofs.Ytbmdfmboabfceaa
