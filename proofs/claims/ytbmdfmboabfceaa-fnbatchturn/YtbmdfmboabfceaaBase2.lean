/- Small facts on worlds, continued: a block that is laid ahead of a call is there behind it. -/
import Derived.Test.YtbmdfmboabfceaaBase
namespace Go.Proofs.Ytbmdfmboabfceaa
open Go.RowKit
theorem newf {w w1 : World} {x y : Value} {t : TypeId} (hb : Below (w.alloc (.cells #[x, y] t)).heap.size (w.alloc (.cells #[x, y] t)) w1) :
    w1.cell? ⟨w.heap.size, 0, none⟩ = some x ∧ w1.cell? ⟨w.heap.size, 1, none⟩ = some y ∧ w1.frozen? ⟨w.heap.size, 0, none⟩ = false ∧ w1.frozen? ⟨w.heap.size, 1, none⟩ = false ∧ w.heap.size < w1.heap.size := by
  have h := (Bk.new (w := w) #[x, y] t rfl).keep hb
  exact ⟨h.two.1, h.two.2.1, h.two.2.2.1, h.two.2.2.2, h.lt⟩
theorem newfd {w w1 : World} {x y : Value} {t : TypeId} (hb : Below (w.alloc (.cells #[x, y] t)).drew.heap.size (w.alloc (.cells #[x, y] t)).drew w1) :
    w1.cell? ⟨w.heap.size, 0, none⟩ = some x ∧ w1.cell? ⟨w.heap.size, 1, none⟩ = some y ∧ w1.frozen? ⟨w.heap.size, 0, none⟩ = false ∧ w1.frozen? ⟨w.heap.size, 1, none⟩ = false ∧ w.heap.size < w1.heap.size := by
  have h := (Bk.new (w := w) #[x, y] t rfl).drew.keep hb
  exact ⟨h.two.1, h.two.2.1, h.two.2.2.1, h.two.2.2.2, h.lt⟩
theorem oldf {w w1 : World} (hb : Below w.heap.size w w1) {k : Nat} {x y : Value} (hk : k < w.heap.size) (h0 : w.cell? ⟨k, 0, none⟩ = some x) (h1 : w.cell? ⟨k, 1, none⟩ = some y) (f0 : w.frozen? ⟨k, 0, none⟩ = false) (f1 : w.frozen? ⟨k, 1, none⟩ = false) :
    w1.cell? ⟨k, 0, none⟩ = some x ∧ w1.cell? ⟨k, 1, none⟩ = some y ∧ w1.frozen? ⟨k, 0, none⟩ = false ∧ w1.frozen? ⟨k, 1, none⟩ = false ∧ k < w1.heap.size := by
  obtain ⟨hc, hf⟩ := bcell hb
  exact ⟨by rw [hc _ _ hk]; exact h0, by rw [hc _ _ hk]; exact h1, by rw [hf _ _ hk]; exact f0, by rw [hf _ _ hk]; exact f1, Nat.lt_of_lt_of_le hk hb.size⟩
theorem newf_k {C : Prop} {w w1 : World} {x y : Value} {t : TypeId} (hb : Below (w.alloc (.cells #[x, y] t)).heap.size (w.alloc (.cells #[x, y] t)) w1) (k : w1.cell? ⟨w.heap.size, 0, none⟩ = some x → w1.cell? ⟨w.heap.size, 1, none⟩ = some y → w1.frozen? ⟨w.heap.size, 0, none⟩ = false → w1.frozen? ⟨w.heap.size, 1, none⟩ = false → w.heap.size < w1.heap.size → C) : C :=
  let ⟨a, b, c, d, e⟩ := newf hb
  k a b c d e
theorem newfd_k {C : Prop} {w w1 : World} {x y : Value} {t : TypeId} (hb : Below (w.alloc (.cells #[x, y] t)).drew.heap.size (w.alloc (.cells #[x, y] t)).drew w1) (k : w1.cell? ⟨w.heap.size, 0, none⟩ = some x → w1.cell? ⟨w.heap.size, 1, none⟩ = some y → w1.frozen? ⟨w.heap.size, 0, none⟩ = false → w1.frozen? ⟨w.heap.size, 1, none⟩ = false → w.heap.size < w1.heap.size → C) : C :=
  let ⟨a, b, c, d, e⟩ := newfd hb
  k a b c d e
theorem oldf_k {C : Prop} {w w1 : World} (hb : Below w.heap.size w w1) {k : Nat} {x y : Value} (hk : k < w.heap.size) (h0 : w.cell? ⟨k, 0, none⟩ = some x) (h1 : w.cell? ⟨k, 1, none⟩ = some y) (f0 : w.frozen? ⟨k, 0, none⟩ = false) (f1 : w.frozen? ⟨k, 1, none⟩ = false)
    (c : w1.cell? ⟨k, 0, none⟩ = some x → w1.cell? ⟨k, 1, none⟩ = some y → w1.frozen? ⟨k, 0, none⟩ = false → w1.frozen? ⟨k, 1, none⟩ = false → k < w1.heap.size → C) : C :=
  let ⟨a, b, d, e, f⟩ := oldf hb hk h0 h1 f0 f1
  c a b d e f
/-- Block number k holds two cells, whatever they are, none of them frozen. -/
def Bk2 (w : World) (k : Nat) (t : TypeId) : Prop := ∃ x y, Bk w k #[x, y] t
theorem Bk2.set01 {w : World} {k : Nat} {t : TypeId} (h : Bk2 w k t) (u v : Value) : Bk ((w.setCell ⟨k, 0, none⟩ u).setCell ⟨k, 1, none⟩ v) k #[u, v] t := by
  obtain ⟨x, y, h⟩ := h; exact h.set01 u v
theorem Bk2.keep {w w1 : World} {k : Nat} {t : TypeId} (h : Bk2 w k t) (hb : Below w.heap.size w w1) : Bk2 w1 k t := by
  obtain ⟨x, y, h⟩ := h; exact ⟨x, y, h.keep hb⟩
theorem Bk2.alloc {w : World} {k : Nat} {t : TypeId} (h : Bk2 w k t) (o : Obj) : Bk2 (w.alloc o) k t := by
  obtain ⟨x, y, h⟩ := h; exact ⟨x, y, h.alloc o⟩
theorem Bk2.new {w : World} {k : Nat} (x y : Value) (t : TypeId) (h : k = w.heap.size) : Bk2 (w.alloc (.cells #[x, y] t)) k t := ⟨x, y, Bk.new _ _ h⟩
theorem Bk2.drew {w : World} {k : Nat} {t : TypeId} (h : Bk2 w k t) : Bk2 w.drew k t := h
end Go.Proofs.Ytbmdfmboabfceaa
