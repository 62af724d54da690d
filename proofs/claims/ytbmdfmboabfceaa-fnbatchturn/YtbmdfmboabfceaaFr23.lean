/- What FrontBoth answers, of the program and of its model: contracts. -/
import Derived.Test.YtbmdfmboabfceaaFr20
import Derived.Test.YtbmdfmboabfceaaFr21
import Derived.Deep.RegionHeld3
import Derived.Deep.AppendLies
namespace Go.Proofs.Ytbmdfmboabfceaa
open Go.RowKit

theorem implFrontOk_eq {l : List (Int × Int)} {r : Bool} (h : fokB l = r) {v : Value} {w : World} (ht : Ts w v l) : Calls Try.prog 118 #[v] w fun e w' => e = .returned (.bool r) ∧ Below w.heap.size w w' := by
  rw [← h]; exact implFrontOk_any v l w ht
theorem joins_few {n m k j : Nat} (hn : n ≤ 8) (hm : m ≤ 8) (hk : k < m) (hj : j < n) : k * n + j < 64 := by
  have h1 : (k + 1) * n ≤ 8 * 8 := Nat.mul_le_mul (by omega) hn
  rw [Nat.succ_mul] at h1
  omega

end Go.Proofs.Ytbmdfmboabfceaa
