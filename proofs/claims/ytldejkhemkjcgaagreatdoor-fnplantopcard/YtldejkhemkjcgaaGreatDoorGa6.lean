import Derived.Test.YtldejkhemkjcgaaGreatDoorGa5
import Derived.Test.YtldejkhemkjcgaaGreatDoorGa3
import Derived.WalkSpells
import Derived.Deep.RegionWith
import Derived.Test.YtldejkhemkjcgaaGreatDoorGa4
namespace Go.Proofs.YtldejkhemkjcgaaGreatDoor
open Go.RowKit
attribute [local go_sem ↓] Go.wp_at_zero Go.wp_at_succ
end Go.Proofs.YtldejkhemkjcgaaGreatDoor
namespace Go.Proofs.YtldejkhemkjcgaaGreatDoor
open Go.RowKit
attribute [local go_sem ↓] Go.wp_at_zero Go.wp_at_succ
end Go.Proofs.YtldejkhemkjcgaaGreatDoor
namespace Go.Proofs.YtldejkhemkjcgaaGreatDoor
open Go.RowKit
def anyB (l : List (Int × Int)) (x y : Int) : Bool := (List.range l.length).any fun i => leB (tA l i) (tB l i) x y
theorem any_true {l : List (Int × Int)} {x y : Int} {k : Nat} (hk : k < l.length) (h : leB (tA l k) (tB l k) x y = true) : anyB l x y = true := by
  unfold anyB; rw [List.any_eq_true]; exact ⟨k, by simpa using hk, h⟩
def Fk (w : World) (k : Nat) : Prop := w.heap[k]? = some (.cells #[.func (.func 32) #[] #[]] 59 (0, 0))
theorem Fk.keep {w w1 : World} {k : Nat} (h : Fk w k) (hb : Below w.heap.size w w1) : Fk w1 k := by
  unfold Fk; rw [hb.block k (lt_of_block h)]; exact h
theorem Fk.cell {w : World} {k : Nat} (h : Fk w k) : w.cell? ⟨k, 0, none⟩ = some (.func (.func 32) #[] #[]) := cell_of_one h
theorem specLess_eq {a b c d : Int} {r : Bool} (h : leB a b c d = r) (w : World) : Calls Tryz.prog 108 #[tv a b, tv c d] w fun e w' => e = .returned (.bool r) ∧ Below w.heap.size w w' := by
  rw [← h]; exact specLess_any a b c d w
end Go.Proofs.YtldejkhemkjcgaaGreatDoor
namespace Go.Proofs.YtldejkhemkjcgaaGreatDoor
open Go.RowKit
def cellsL (l : List (Int × Int)) : List Value := l.flatMap fun p => [.int .i64 p.1, .int .i64 p.2]
theorem cellsL_length (l : List (Int × Int)) : (cellsL l).length = l.length * 2 := by
  induction l with
  | nil => rfl
  | cons p l ih => unfold cellsL at *; simp [List.flatMap_cons, ih]; omega
theorem cellsL_snoc (l : List (Int × Int)) (a b : Int) : cellsL (l ++ [(a, b)]) = cellsL l ++ [.int .i64 a, .int .i64 b] := by
  unfold cellsL; rw [List.flatMap_append]; simp
theorem cellsL_get (l : List (Int × Int)) (i : Nat) (h : i < l.length) : (cellsL l)[i * 2]? = some (.int .i64 (tA l i)) ∧ (cellsL l)[i * 2 + 1]? = some (.int .i64 (tB l i)) := by
  induction l generalizing i with
  | nil => simp at h
  | cons p l ih =>
    cases i with
    | zero => simp [cellsL, tA, tB, List.flatMap_cons]
    | succ i =>
      have := ih i (by simpa using h)
      have e1 : (i + 1) * 2 = i * 2 + 2 := by omega
      have e2 : (i + 1) * 2 + 1 = i * 2 + 1 + 2 := by omega
      rw [e1]
      simpa [cellsL, List.flatMap_cons, tA, tB] using this
abbrev Own (w : World) (B : Nat) (v : Value) (l : List (Int × Int)) : Prop := w.ownsRow B 41 2 v l.length (cellsL l)
theorem Own.ts {w : World} {B : Nat} {v : Value} {l : List (Int × Int)} (h : Own w B v l) (hl : l.length ≤ 2097152) : Ts w v l := by
  have hh := h
  obtain ⟨_, h2⟩ := h
  rcases h2 with ⟨rfl, h0⟩ | ⟨g, cap, cur, rfl, hg, hb, hc, hm, _, _⟩
  · have : l = [] := List.eq_nil_of_length_eq_zero h0
    subst this
    exact ⟨none, 0, rfl, Nat.le_refl _, by unfold maxLen; omega, by simp, fun i hi => by simp at hi⟩
  · refine ⟨_, cap, rfl, hc, hm, hl, fun i hi => ⟨g, 0, rfl, lt_of_block hb, ?_, ?_⟩⟩
    · rw [Nat.zero_add, hh.cellAt _ (by omega)]; exact (cellsL_get l i hi).1
    · rw [Nat.zero_add, hh.cellAt _ (by omega)]; exact (cellsL_get l i hi).2
theorem own_move {w w1 : World} {B : Nat} {e : TypeId} {s : Nat} {v : Value} {n : Nat} {xs : List Value} (h : w.ownsRow B e s v n xs) (hb : ∀ k, B ≤ k → k < w.heap.size → w1.heap[k]? = w.heap[k]?) : w1.ownsRow B e s v n xs := by
  obtain ⟨h1, h2⟩ := h
  refine ⟨h1, ?_⟩
  rcases h2 with h2 | ⟨g, cap, cur, rfl, hg, hh, r⟩
  · exact .inl h2
  · exact .inr ⟨g, cap, cur, rfl, hg, by rw [hb g hg (lt_of_block hh)]; exact hh, r⟩
theorem own_keepx {g : Nat} {w w1 : World} {B : Nat} {e : TypeId} {s : Nat} {v : Value} {n : Nat} {xs : List Value} (h : w.ownsRow B e s v n xs) (hx : Bx g w w1) (hg : g < B) : w1.ownsRow B e s v n xs :=
  own_move h fun k hk hs => hx.block k hs (by omega)
theorem own_keep {w w1 : World} {B : Nat} {e : TypeId} {s : Nat} {v : Value} {n : Nat} {xs : List Value} (h : w.ownsRow B e s v n xs) (hx : Below w.heap.size w w1) : w1.ownsRow B e s v n xs :=
  own_move h fun k _ hs => hx.block k hs
theorem own_less {w : World} {B B' : Nat} {e : TypeId} {s : Nat} {v : Value} {n : Nat} {xs : List Value} (h : w.ownsRow B e s v n xs) (hB : B' ≤ B) : w.ownsRow B' e s v n xs := by
  obtain ⟨h1, h2⟩ := h
  refine ⟨h1, ?_⟩
  rcases h2 with h2 | ⟨g, cap, cur, rfl, hg, r⟩
  · exact .inl h2
  · exact .inr ⟨g, cap, cur, rfl, by omega, r⟩
theorem Bx.bel {g B : Nat} {w w' : World} (h : Bx g w w') (hB : B ≤ w.heap.size) (hg : B ≤ g) : Below B w w' := h.below (Below.refl _ _) hB hg
theorem Bx.grown {g : Nat} {a w w' : World} {row : Option Nat} (h : Bx g a w) (hg : w.grownBy w' row) (hr : ∀ k, row = some k → a.heap.size ≤ k) : Bx g a w' :=
  ⟨hg.os.trans h.os, hg.tape.trans h.tape, hg.output.trans h.output, Nat.le_trans h.size hg.size, fun k hk hkg => by
    have hs := h.size
    rw [hg.block k (by omega) (fun e => by have := hr k e.symm; omega)]; exact h.block k hk hkg⟩
theorem Rd.grown {B : Nat} {w w' : World} {g : Nat} {v : Value} {n : Nat} {p : Int} {row : Option Nat} (h : Rd B w g v n p) (hg : w.grownBy w' row) (hr : ∀ k, row = some k → g < k) : Rd B w' g v n p := by
  have hl := h.blk.lt
  have hh := h.here
  have hs := h.size
  have same : ∀ k, k ≤ g → w'.heap[k]? = w.heap[k]? := fun k hk => hg.block k (by omega) (fun e => by have := hr k e.symm; omega)
  refine ⟨by unfold Bk; rw [same g (Nat.le_refl _)]; exact h.blk, ?_, h.few, h.here, Nat.le_trans h.size hg.size⟩
  obtain ⟨a, cap, rfl, h1, h2, h3⟩ := h.bytes
  refine ⟨a, cap, rfl, h1, h2, fun i hi => ?_⟩
  obtain ⟨b, off, z, rfl, hb', hc, h4, h5⟩ := h3 i hi
  exact ⟨b, off, z, rfl, hb', by rw [World.cell?_of_block (w := w) (same b (by omega))]; exact hc, h4, h5⟩
end Go.Proofs.YtldejkhemkjcgaaGreatDoor
namespace Go.Proofs.YtldejkhemkjcgaaGreatDoor
open Go.RowKit
end Go.Proofs.YtldejkhemkjcgaaGreatDoor
namespace Go.Proofs.YtldejkhemkjcgaaGreatDoor
open Go.RowKit
end Go.Proofs.YtldejkhemkjcgaaGreatDoor
