/- Small facts on worlds that the contracts of this seat lean on: what a block holds, and that it is held still behind calls that leave old memory alone. -/
import Derived.Test.YtbmdfmboabfceaaRows
import Derived.Handy
import Derived.WalkSpells
import Derived.WalkLawsBesides
import Derived.Deep.QuietTactic
import Derived.BigQuiet
namespace Go.Proofs.Ytbmdfmboabfceaa
open Go.RowKit

/-- Block number k holds the cells c, none of them frozen. -/
def Bk (w : World) (k : Nat) (c : Array Value) (t : TypeId) : Prop := w.heap[k]? = some (.cells c t (0, 0))
theorem Bk.lt {w : World} {k : Nat} {c : Array Value} {t : TypeId} (h : Bk w k c t) : k < w.heap.size := lt_of_block h
theorem Bk.keep {w w1 : World} {k : Nat} {c : Array Value} {t : TypeId} (h : Bk w k c t) (hb : Below w.heap.size w w1) : Bk w1 k c t := by
  unfold Bk; rw [hb.block k h.lt]; exact h
theorem Bk.two {w : World} {k : Nat} {x y : Value} {t : TypeId} (h : Bk w k #[x, y] t) :
    w.cell? ⟨k, 0, none⟩ = some x ∧ w.cell? ⟨k, 1, none⟩ = some y ∧ w.frozen? ⟨k, 0, none⟩ = false ∧ w.frozen? ⟨k, 1, none⟩ = false := by
  unfold Bk at h; simp [World.cell?, World.frozen?, h]
theorem Bk.new {w : World} {k : Nat} (c : Array Value) (t : TypeId) (h : k = w.heap.size) : Bk (w.alloc (.cells c t)) k c t := by
  subst h; exact heap_alloc_new w _
theorem Bk.alloc {w : World} {k : Nat} {c : Array Value} {t : TypeId} (h : Bk w k c t) (o : Obj) : Bk (w.alloc o) k c t := by
  unfold Bk; rw [Below.heap_alloc _ _ _ h.lt]; exact h
theorem Bk.drew {w : World} {k : Nat} {c : Array Value} {t : TypeId} (h : Bk w k c t) : Bk w.drew k c t := h
theorem Bk.apart {w : World} {k : Nat} {c : Array Value} {t : TypeId} (h : Bk w k c t) {p : Addr} (hp : k ≠ p.block) (u : Value) : Bk (w.setCell p u) k c t := by
  unfold Bk; rw [Below.heap_setCell _ _ _ _ hp]; exact h
theorem Bk.set {w : World} {k : Nat} {c : Array Value} {t : TypeId} (h : Bk w k c t) (i : Nat) (u : Value) : Bk (w.setCell ⟨k, i, none⟩ u) k (c.setIfInBounds i u) t := by
  have hlt := h.lt
  have h' : w.heap[k] = .cells c t (0, 0) := by simpa [Bk, Array.getElem?_eq_getElem hlt] using h
  show (w.heap.modify k _)[k]? = _
  rw [Array.getElem?_eq_getElem (by simpa using hlt), Array.getElem_modify_self, h']
  rfl
theorem lt_of_cell {w : World} {k i : Nat} {v : Value} (h : w.cell? ⟨k, i, none⟩ = some v) : k < w.heap.size := by
  rcases Nat.lt_or_ge k w.heap.size with h' | h'
  · exact h'
  · simp [World.cell?, Array.getElem?_eq_none h'] at h
theorem cell_drew {w : World} {a : Addr} {v : Value} (h : w.cell? a = some v) : w.drew.cell? a = some v := h
theorem cell_alloc {w : World} {k i : Nat} {v : Value} (h : w.cell? ⟨k, i, none⟩ = some v) {o : Obj} : (w.alloc o).cell? ⟨k, i, none⟩ = some v := by
  rw [World.cell?_alloc_past _ _ _ (lt_of_cell h)]; exact h
theorem cell_apart {w : World} {k i : Nat} {v u : Value} {p : Addr} (h : w.cell? ⟨k, i, none⟩ = some v) (hp : k ≠ p.block) : (w.setCell p u).cell? ⟨k, i, none⟩ = some v := by
  rw [World.cell?_of_block (w := w) (Below.heap_setCell _ _ _ _ hp)]; exact h
theorem Bk.set01 {w : World} {k : Nat} {x y : Value} {t : TypeId} (h : Bk w k #[x, y] t) (u v : Value) : Bk ((w.setCell ⟨k, 0, none⟩ u).setCell ⟨k, 1, none⟩ v) k #[u, v] t := (h.set 0 u).set 1 v
theorem set1a {w : World} {k : Nat} {x y : Value} {t : TypeId} (h : Bk w k #[x, y] t) (u : Value) : (w.setCell ⟨k, 0, none⟩ u).cell? ⟨k, 0, none⟩ = some u := (h.set 0 u).two.1
theorem set2b {w : World} {k : Nat} {x y : Value} {t : TypeId} (h : Bk w k #[x, y] t) (u v : Value) : ((w.setCell ⟨k, 0, none⟩ u).setCell ⟨k, 1, none⟩ v).cell? ⟨k, 1, none⟩ = some v := ((h.set 0 u).set 1 v).two.2.1
theorem bcell {W w1 : World} (hb : Below W.heap.size W w1) : (∀ b o, b < W.heap.size → w1.cell? ⟨b, o, none⟩ = W.cell? ⟨b, o, none⟩) ∧ (∀ b o, b < W.heap.size → w1.frozen? ⟨b, o, none⟩ = W.frozen? ⟨b, o, none⟩) :=
  ⟨fun b o h => hb.cell (p := ⟨b, o, none⟩) h, fun b o h => hb.frozen (p := ⟨b, o, none⟩) h⟩
theorem bStep {w W w1 : World} (h : Below w.heap.size w W) (hb : Below W.heap.size W w1) : Below w.heap.size w w1 := h.trans (hb.mono h.size)
theorem bAlloc {w W : World} (h : Below w.heap.size w W) (o : Obj) : Below w.heap.size w (W.alloc o) := h.alloc h.size o
theorem bDrewN {B : Nat} {a w : World} (h : Below B a w) (n : Nat) : Below B a (w.drewN n) := ⟨h.os, h.tape, h.output, h.size, h.block⟩
theorem Bk.drewN {w : World} {k : Nat} {c : Array Value} {t : TypeId} (h : Bk w k c t) (n : Nat) : Bk (w.drewN n) k c t := h
theorem ret_tv {a b c d : Int} (h1 : a = c) (h2 : b = d) : Ending.returned (.agg #[.int .i64 a, .int .i64 b]) = .returned (.agg #[.int .i64 c, .int .i64 d]) := by rw [h1, h2]
theorem boxed2 {w w1 : World} {c d : Array Value} {t u : TypeId} (hb : Below ((w.alloc (.cells c t)).alloc (.cells d u)).heap.size ((w.alloc (.cells c t)).alloc (.cells d u)) w1) : Bk w1 w.heap.size c t ∧ Bk w1 (w.heap.size + 1) d u :=
  ⟨((Bk.new c t rfl).alloc _).keep hb, (Bk.new d u (by simp)).keep hb⟩
theorem boxed3 {w w1 : World} {c d f : Array Value} {t u v : TypeId} (hb : Below (((w.alloc (.cells c t)).alloc (.cells d u)).alloc (.cells f v)).heap.size (((w.alloc (.cells c t)).alloc (.cells d u)).alloc (.cells f v)) w1) : Bk w1 w.heap.size c t ∧ Bk w1 (w.heap.size + 1) d u ∧ Bk w1 (w.heap.size + 1 + 1) f v :=
  ⟨(((Bk.new c t rfl).alloc _).alloc _).keep hb, ((Bk.new d u (by simp)).alloc _).keep hb, (Bk.new f v (by simp)).keep hb⟩
theorem ret_bool {b c : Bool} (h : b = c) : Ending.returned (.bool b) = .returned (.bool c) := by rw [h]
/-- A world that is w with new blocks behind it: what a call leaves that writes nothing old. -/
structure Bel (w : World) where
  ww : World
  below : Below w.heap.size w ww
theorem wp_region_bel {P : Program} {id : Nat} {Q : Exit → Act → World → Prop} {a : Act} {w : World} {l : List Oper} (hm : P.follows .mixedOrders = true) (hB : Region.lexB .any l.toArray = true)
    (h : wpQuiet P l.toArray (fun w' => ∃ p : Bel w, w' = p.ww) (fun a' => ∀ w', (∃ p : Bel w, w' = p.ww) → Q .normal a' w') l a) : (Code.region id l.toArray true).wp P Q a w :=
  wp_region_quiet (C := fun w' => ∃ p : Bel w, w' = p.ww) hm hB ⟨⟨_, (Below.refl _ _).drew⟩, rfl⟩ (by simpa using h)
theorem calls_bel {P : Program} {f : FuncId} {args : Array Value} {w : World} {p : Bel w} {v : Value}
    (h : Calls P f args p.ww fun e w' => e = .returned v ∧ Below p.ww.heap.size p.ww w') : Calls P f args p.ww fun e w'' => e = .returned v ∧ ∃ q : Bel w, w'' = q.ww :=
  h.mono fun _ w' ⟨he, hb⟩ => ⟨he, ⟨w', bStep p.below hb⟩, rfl⟩
theorem bel_out {w w' : World} (h : ∃ p : Bel w, w' = p.ww) : Below w.heap.size w w' := by
  obtain ⟨p, rfl⟩ := h; exact p.below
theorem bel_some (w : World) : Nonempty (Bel w) := ⟨⟨w, Below.refl _ _⟩⟩
theorem Bk.bel0 {w : World} {k : Nat} {x y : Value} {t : TypeId} (h : Bk w k #[x, y] t) (p : Bel w) : p.ww.cell? ⟨k, 0, none⟩ = some x := (h.keep p.below).two.1
theorem Bk.bel1 {w : World} {k : Nat} {x y : Value} {t : TypeId} (h : Bk w k #[x, y] t) (p : Bel w) : p.ww.cell? ⟨k, 1, none⟩ = some y := (h.keep p.below).two.2.1
theorem cell_below {w w1 : World} {k i : Nat} {v : Value} (hb : Below w.heap.size w w1) (h : w.cell? ⟨k, i, none⟩ = some v) : w1.cell? ⟨k, i, none⟩ = some v := by
  rw [hb.cell (p := ⟨k, i, none⟩) (lt_of_cell h)]; exact h
end Go.Proofs.Ytbmdfmboabfceaa
