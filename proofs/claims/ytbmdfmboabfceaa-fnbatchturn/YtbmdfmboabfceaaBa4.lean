/- What the laws' own functions on rows answer: contracts. -/
import Derived.Test.YtbmdfmboabfceaaBa3
namespace Go.Proofs.Ytbmdfmboabfceaa
open Go.RowKit

theorem Bk.set5 {w : World} {g : Nat} {x0 x1 x2 x3 x4 : Value} {t : TypeId} (h : Bk w g #[x0, x1, x2, x3, x4] t) (u0 u1 u2 u3 u4 : Value) :
    Bk (((((w.setCell ⟨g, 0, none⟩ u0).setCell ⟨g, 1, none⟩ u1).setCell ⟨g, 2, none⟩ u2).setCell ⟨g, 3, none⟩ u3).setCell ⟨g, 4, none⟩ u4) g #[u0, u1, u2, u3, u4] t :=
  ((((h.set 0 u0).set 1 u1).set 2 u2).set 3 u3).set 4 u4
/-- Five cells of a row written. -/
abbrev set5A (c : Array Value) (o : Nat) (u0 u1 u2 u3 u4 : Value) : Array Value := ((((c.setIfInBounds o u0).setIfInBounds (o + 1) u1).setIfInBounds (o + 2) u2).setIfInBounds (o + 3) u3).setIfInBounds (o + 4) u4
theorem set5A_at (c : Array Value) (o : Nat) (u0 u1 u2 u3 u4 : Value) (h : o + 4 < c.size) {j : Nat} (hj : j < 5) : (set5A c o u0 u1 u2 u3 u4)[o + j]? = [u0, u1, u2, u3, u4][j]? := by
  obtain rfl | rfl | rfl | rfl | rfl : j = 0 ∨ j = 1 ∨ j = 2 ∨ j = 3 ∨ j = 4 := by omega
  all_goals simp [Array.getElem?_setIfInBounds]
  all_goals omega
theorem set5A_else (c : Array Value) (o : Nat) (u0 u1 u2 u3 u4 : Value) {i : Nat} (hi : i < o ∨ o + 4 < i) : (set5A c o u0 u1 u2 u3 u4)[i]? = c[i]? := by
  simp only [Array.getElem?_setIfInBounds]
  rw [if_neg (by omega), if_neg (by omega), if_neg (by omega), if_neg (by omega), if_neg (by omega)]
theorem FillK.step5 {c : Array Value} {l : List Rw} {k : Nat} {K V A B D : Int} (h : FillK rowC 5 c l k) (hr : l[k]? = some (((K, V), (A, B)), D)) (hs : k * 5 + 4 < c.size) :
    FillK rowC 5 (set5A c (k * 5) (.int .i64 K) (.int .i64 V) (.int .i64 A) (.int .i64 B) (.int .i64 D)) l (k + 1) := by
  intro i x hi hx j hj
  by_cases e : i = k
  · subst e
    rw [hr] at hx; cases hx
    exact set5A_at c _ _ _ _ _ _ hs hj
  · rw [set5A_else c _ _ _ _ _ _ (by omega)]
    exact h i x (by omega) hx j hj
theorem infoR : (Try.prog.info? 33).map (fun i => (i.zero, i.size, i.bytes)) = some (some (.agg #[.int .i64 0, .int .i64 0, .int .i64 0, .int .i64 0, .int .i64 0]), 5, 40) := by kernel_rfl
theorem infoI : (Try.prog.info? 64).map (fun i => (i.zero, i.size, i.bytes)) = some (some (.agg #[.int .i64 0, .int .i64 0, .int .i64 0]), 3, 24) := by kernel_rfl
theorem make_rows (n : Nat) (hn : n ≤ 2097152) : ∃ M : Array Value, M.size = n * 5 ∧ ∀ u : World, (Instr.makeSlice 23 (.int .i64 (n : Int)) (.int .i64 (n : Int))).run Try.prog u = .ok (.slice (some ⟨u.heap.size, 0, none⟩) n n) (u.alloc (.cells M 33)) := by
  obtain ⟨i0, hi, hz0, hz1, hz2⟩ := info_parts infoR
  refine ⟨madeCells (Value.agg #[.int .i64 0, .int .i64 0, .int .i64 0, .int .i64 0, .int .i64 0]).cells (n * i0.size), by rw [size_madeCells, hz1], fun u => ?_⟩
  have := run_make (P := Try.prog) u 23 33 i0 _ Try.underlying23 hi hz0 .i64 .i64 (n : Int) (n : Int) (by omega) (by omega) (by rw [hz2]; omega) (by omega)
  simpa using this

end Go.Proofs.Ytbmdfmboabfceaa
