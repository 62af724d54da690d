/- SetJoin of the model, where products are few: the contract. -/
import Derived.Test.YtjlaeeccnbdghaaGreatGtX
import Derived.Test.YtjlaeeccnbdghaaGreatGs7
import Derived.Deep.RegionHeld3
/-! SetJoin of the model, where products are few: the contract. -/
namespace Go.Proofs.YtjlaeeccnbdghaaGreat
open Go.RowKit

def rowT (x : It) (t : List It) : List It := (t.filter fun y => decide (x.1.1 = y.1.1)).map fun y => ((x.1.1, pv x.1.2 y.1.2), x.2 * y.2)
theorem pair_row (s t : List It) : pairT s t = s.flatMap fun x => rowT x t := rfl
theorem pair_snoc {s : List It} {i : Nat} {x : It} (t : List It) (h : s[i]? = some x) : pairT (s.take (i + 1)) t = pairT (s.take i) t ++ rowT x t := by
  rw [take_snoc h, pair_row, List.flatMap_append]; simp [pair_row]
theorem row_yes {t : List It} {k : Nat} {x y : It} (h : t[k]? = some y) (e : x.1.1 = y.1.1) : rowT x (t.take (k + 1)) = rowT x (t.take k) ++ [((x.1.1, pv x.1.2 y.1.2), x.2 * y.2)] := by
  unfold rowT; rw [take_snoc h, List.filter_append, List.map_append]; simp [e]
theorem row_no {t : List It} {k : Nat} {x y : It} (h : t[k]? = some y) (e : x.1.1 ≠ y.1.1) : rowT x (t.take (k + 1)) = rowT x (t.take k) := by
  unfold rowT; rw [take_snoc h, List.filter_append, List.map_append]; simp [e]
theorem row_len (x : It) (t : List It) : (rowT x t).length ≤ t.length := by
  unfold rowT; rw [List.length_map]; exact List.length_filter_le _ _
theorem prod_few {a b : Int} (ha : -1000 ≤ a ∧ a ≤ 1000) (hb : -1000 ≤ b ∧ b ≤ 1000) : -1000000 ≤ a * b ∧ a * b ≤ 1000000 := by
  have h1 : (a * b).natAbs ≤ 1000 * 1000 := by rw [Int.natAbs_mul]; exact Nat.mul_le_mul (by omega) (by omega)
  omega
theorem abs_mem {l : List It} {k : Nat} {r : It} (h : l[k]? = some r) : -absum l ≤ r.2 ∧ r.2 ≤ absum l := by
  induction l generalizing k with
  | nil => simp at h
  | cons q l ih =>
    have hp := absum_pos l
    cases k with
    | zero => simp at h; subst h; simp only [absum]; omega
    | succ k => simp at h; have := ih h; simp only [absum]; omega
end Go.Proofs.YtjlaeeccnbdghaaGreat

/-! SetJoin of the model, where products are few: the contract. -/
namespace Go.Proofs.YtjlaeeccnbdghaaGreat
open Go.RowKit

end Go.Proofs.YtjlaeeccnbdghaaGreat

/-! The value of a pair: the contract. -/
namespace Go.Proofs.YtjlaeeccnbdghaaGreat
open Go.RowKit

end Go.Proofs.YtjlaeeccnbdghaaGreat
