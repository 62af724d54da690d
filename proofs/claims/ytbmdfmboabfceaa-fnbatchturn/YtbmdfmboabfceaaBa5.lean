/- What the laws' own comparison of rows, their marking and the look for the marks answer: contracts. -/
import Derived.Test.YtbmdfmboabfceaaBa4
import Derived.Deep.Cut
namespace Go.Proofs.Ytbmdfmboabfceaa
open Go.RowKit
theorem Bk.some {w : World} {g : Nat} {c : Array Value} {t : TypeId} (h : Bk w g c t) {i : Nat} (hi : i < c.size) : ∃ y, w.cell? ⟨g, i, none⟩ = .some y := ⟨_, h.cell (Array.getElem?_eq_getElem hi)⟩
/-- The marks from a on, of n rows. -/
def markR (a : Int) (i : Nat) : Rw := (((a + 5 * (i : Int), a + 5 * (i : Int) + 1), (a + 5 * (i : Int) + 1 + 1, a + 5 * (i : Int) + 1 + 1 + 1)), a + 5 * (i : Int) + 1 + 1 + 1 + 1)
def marksR (a : Int) (n : Nat) : List Rw := (List.range n).map (markR a)
theorem marksR_len (a : Int) (n : Nat) : (marksR a n).length = n := by simp [marksR]
theorem marksR_at (a : Int) {n i : Nat} (h : i < n) : (marksR a n)[i]? = some (((a + 5 * (i : Int), a + 5 * (i : Int) + 1), (a + 5 * (i : Int) + 1 + 1, a + 5 * (i : Int) + 1 + 1 + 1)), a + 5 * (i : Int) + 1 + 1 + 1 + 1) := by simp [marksR, markR, h]

end Go.Proofs.Ytbmdfmboabfceaa
