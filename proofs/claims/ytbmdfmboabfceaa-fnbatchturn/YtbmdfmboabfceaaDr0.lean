/- What the drawing of a row answers: a contract. -/
import Derived.Test.YtbmdfmboabfceaaBa4
import Derived.Test.YtbmdfmboabfceaaFr8
import Derived.Test.YtbmdfmboabfceaaFr13
namespace Go.Proofs.Ytbmdfmboabfceaa
open Go.RowKit

/-- A row that is ok, of few. -/
def smR (r : Rw) : Prop := rwOkB r = true ∧ -3 ≤ r.2 ∧ r.2 ≤ 3
theorem smR_mk {K V A B D : Int} (h1 : 0 ≤ K) (h2 : K ≤ 3) (h3 : 0 ≤ V) (h4 : V ≤ 99) (h5 : 0 ≤ A) (h6 : A ≤ 7) (h7 : 0 ≤ B) (h8 : B ≤ 7) (h9 : -3 ≤ D) (h10 : D ≤ 3) : smR (((K, V), (A, B)), D) := by
  refine ⟨?_, h9, h10⟩
  simp only [rwOkB, okB, inB]
  simp; omega
abbrev valsA : Array Value := #[.int .i64 0, .int .i64 1, .int .i64 2, .int .i64 3, .int .i64 4, .int .i64 9, .int .i64 10, .int .i64 57, .int .i64 99]
abbrev diffsA : Array Value := #[.int .i64 1, .int .i64 1, .int .i64 1, .int .i64 2, .int .i64 (-1), .int .i64 (-1), .int .i64 3, .int .i64 0]
theorem vals_at {j : Nat} (h : j < 9) : ∃ V : Int, valsA[j]? = some (.int .i64 V) ∧ 0 ≤ V ∧ V ≤ 99 := by
  obtain rfl | rfl | rfl | rfl | rfl | rfl | rfl | rfl | rfl : j = 0 ∨ j = 1 ∨ j = 2 ∨ j = 3 ∨ j = 4 ∨ j = 5 ∨ j = 6 ∨ j = 7 ∨ j = 8 := by omega
  all_goals exact ⟨_, rfl, by omega, by omega⟩
theorem diffs_at {j : Nat} (h : j < 8) : ∃ V : Int, diffsA[j]? = some (.int .i64 V) ∧ -3 ≤ V ∧ V ≤ 3 := by
  obtain rfl | rfl | rfl | rfl | rfl | rfl | rfl | rfl : j = 0 ∨ j = 1 ∨ j = 2 ∨ j = 3 ∨ j = 4 ∨ j = 5 ∨ j = 6 ∨ j = 7 := by omega
  all_goals exact ⟨_, rfl, by omega, by omega⟩
end Go.Proofs.Ytbmdfmboabfceaa
