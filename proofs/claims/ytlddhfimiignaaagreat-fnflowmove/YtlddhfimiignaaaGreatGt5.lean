/- Grow and Concat of items, and SetBoth of the program and of its model: contracts. -/
import Derived.Test.YtlddhfimiignaaaGreatGt4
import Derived.Test.YtlddhfimiignaaaGreatGs7
import Derived.Test.YtlddhfimiignaaaGreatGs8
import Derived.Test.YtlddhfimiignaaaGreatGs2
namespace Go.Proofs.YtlddhfimiignaaaGreat
open Go.RowKit Go.Shelf
open Go.ChangeMaps (setBlock)

theorem Bx.putMap {g : Nat} {a w : World} (h : Bx g a w) (o : Obj) : Bx g a (setBlock w g o) :=
  h.trans ⟨rfl, rfl, rfl, by rw [size_setBlock]; exact Nat.le_refl _, fun _ _ hg => setBlock_at hg⟩
theorem it_th {s : Int × Int} (h : itK s) : thOk s := by
  obtain ⟨h1, h2, h3, h4⟩ := h
  exact ⟨by unfold fit63; omega, by unfold fit63; omega⟩
theorem itemsOf_k {M L : List It} (b : Nat) (w : World) (hmap : MapIs thV thOk w b M) (hMl : M.length ≤ 1000000) (ht : ∀ s, tot M s = tot L s) :
    Calls Tryz.prog 54 #[.map (some b)] w fun e w' => ∃ o : Value, e = .returned o ∧ OwnI w' w.heap.size o (sumL ltT L) ∧ Below w.heap.size w w' := by
  rw [← sumL_congr ltT_ord ht]; exact itemsOf_any b M w hmap hMl
end Go.Proofs.YtlddhfimiignaaaGreat
