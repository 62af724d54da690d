/- Small facts on worlds that the contracts of this seat lean on: what a block holds, and that it is held still behind calls that leave old memory alone. -/
import Derived.Test.YtakkgcmkefhmjaaRows
import Derived.Handy
import Derived.WalkSpells
import Derived.WalkLawsBesides
namespace Go.Proofs.Ytakkgcmkefhmjaa
open Go.RowKit

/-- Block number k holds the cells c, none of them frozen. -/
def Bk (w : World) (k : Nat) (c : Array Value) (t : TypeId) : Prop := w.heap[k]? = some (.cells c t (0, 0))
theorem Bk.lt {w : World} {k : Nat} {c : Array Value} {t : TypeId} (h : Bk w k c t) : k < w.heap.size := lt_of_block h
theorem Bk.keep {w w1 : World} {k : Nat} {c : Array Value} {t : TypeId} (h : Bk w k c t) (hb : Below w.heap.size w w1) : Bk w1 k c t := by
  unfold Bk; rw [hb.block k h.lt]; exact h
theorem Bk.two {w : World} {k : Nat} {x y : Value} {t : TypeId} (h : Bk w k #[x, y] t) :
    w.cell? ⟨k, 0, none⟩ = some x ∧ w.cell? ⟨k, 1, none⟩ = some y ∧ w.frozen? ⟨k, 0, none⟩ = false ∧ w.frozen? ⟨k, 1, none⟩ = false := by
  unfold Bk at h; simp [World.cell?, World.frozen?, h]
theorem Bk.new {w : World} {k : Nat} (c : Array Value) (t : TypeId) (h : k = w.heap.size) : Bk (w.alloc (.cells c t)) k c t := by
  subst h; exact heap_alloc_new w _
theorem Bk.alloc {w : World} {k : Nat} {c : Array Value} {t : TypeId} (h : Bk w k c t) (o : Obj) : Bk (w.alloc o) k c t := by
  unfold Bk; rw [Below.heap_alloc _ _ _ h.lt]; exact h
theorem Bk.drew {w : World} {k : Nat} {c : Array Value} {t : TypeId} (h : Bk w k c t) : Bk w.drew k c t := h
theorem Bk.apart {w : World} {k : Nat} {c : Array Value} {t : TypeId} (h : Bk w k c t) {p : Addr} (hp : k ≠ p.block) (u : Value) : Bk (w.setCell p u) k c t := by
  unfold Bk; rw [Below.heap_setCell _ _ _ _ hp]; exact h
theorem Bk.set {w : World} {k : Nat} {c : Array Value} {t : TypeId} (h : Bk w k c t) (i : Nat) (u : Value) : Bk (w.setCell ⟨k, i, none⟩ u) k (c.setIfInBounds i u) t := by
  have hlt := h.lt
  have h' : w.heap[k] = .cells c t (0, 0) := by simpa [Bk, Array.getElem?_eq_getElem hlt] using h
  show (w.heap.modify k _)[k]? = _
  rw [Array.getElem?_eq_getElem (by simpa using hlt), Array.getElem_modify_self, h']
  rfl
theorem lt_of_cell {w : World} {k i : Nat} {v : Value} (h : w.cell? ⟨k, i, none⟩ = some v) : k < w.heap.size := by
  rcases Nat.lt_or_ge k w.heap.size with h' | h'
  · exact h'
  · simp [World.cell?, Array.getElem?_eq_none h'] at h
theorem cell_drew {w : World} {a : Addr} {v : Value} (h : w.cell? a = some v) : w.drew.cell? a = some v := h
theorem cell_alloc {w : World} {k i : Nat} {v : Value} (h : w.cell? ⟨k, i, none⟩ = some v) {o : Obj} : (w.alloc o).cell? ⟨k, i, none⟩ = some v := by
  rw [World.cell?_alloc_past _ _ _ (lt_of_cell h)]; exact h
theorem cell_apart {w : World} {k i : Nat} {v u : Value} {p : Addr} (h : w.cell? ⟨k, i, none⟩ = some v) (hp : k ≠ p.block) : (w.setCell p u).cell? ⟨k, i, none⟩ = some v := by
  rw [World.cell?_of_block (w := w) (Below.heap_setCell _ _ _ _ hp)]; exact h
theorem bStep {w W w1 : World} (h : Below w.heap.size w W) (hb : Below W.heap.size W w1) : Below w.heap.size w w1 := h.trans (hb.mono h.size)
theorem bAlloc {w W : World} (h : Below w.heap.size w W) (o : Obj) : Below w.heap.size w (W.alloc o) := h.alloc h.size o
theorem ret_bool {b c : Bool} (h : b = c) : Ending.returned (.bool b) = .returned (.bool c) := by rw [h]
end Go.Proofs.Ytakkgcmkefhmjaa
