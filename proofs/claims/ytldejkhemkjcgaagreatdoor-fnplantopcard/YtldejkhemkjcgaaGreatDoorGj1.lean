import Derived.Test.YtldejkhemkjcgaaGreatDoorGtX
import Derived.Test.YtldejkhemkjcgaaGreatDoorGs7
import Derived.Deep.RegionHeld3
namespace Go.Proofs.YtldejkhemkjcgaaGreatDoor
open Go.RowKit
def rowT (x : It) (t : List It) : List It := (t.filter fun y => decide (x.1.1 = y.1.1)).map fun y => ((x.1.1, pv x.1.2 y.1.2), x.2 * y.2)
theorem pair_row (s t : List It) : pairT s t = s.flatMap fun x => rowT x t := rfl
theorem pair_snoc {s : List It} {i : Nat} {x : It} (t : List It) (h : s[i]? = some x) : pairT (s.take (i + 1)) t = pairT (s.take i) t ++ rowT x t := by
  rw [take_snoc h, pair_row, List.flatMap_append]; simp [pair_row]
theorem row_yes {t : List It} {k : Nat} {x y : It} (h : t[k]? = some y) (e : x.1.1 = y.1.1) : rowT x (t.take (k + 1)) = rowT x (t.take k) ++ [((x.1.1, pv x.1.2 y.1.2), x.2 * y.2)] := by
  unfold rowT; rw [take_snoc h, List.filter_append, List.map_append]; simp [e]
theorem row_no {t : List It} {k : Nat} {x y : It} (h : t[k]? = some y) (e : x.1.1 ≠ y.1.1) : rowT x (t.take (k + 1)) = rowT x (t.take k) := by
  unfold rowT; rw [take_snoc h, List.filter_append, List.map_append]; simp [e]
theorem abs_mem {l : List It} {k : Nat} {r : It} (h : l[k]? = some r) : -absum l ≤ r.2 ∧ r.2 ≤ absum l := by
  induction l generalizing k with
  | nil => simp at h
  | cons q l ih =>
    have hp := absum_pos l
    cases k with
    | zero => simp at h; subst h; simp only [absum]; omega
    | succ k => simp at h; have := ih h; simp only [absum]; omega
theorem l3Pair_any {a b : Int} (ha : 0 ≤ a) (ha' : a ≤ 99) (hb : 0 ≤ b) (hb' : b ≤ 99) (w : World) :
    Calls Tryz.prog 128 #[.int .i64 a, .int .i64 b] w fun e w' => e = .returned (.int .i64 (pv a b)) ∧ Below w.heap.size w w' := by
  have i1 : IntKind.i64.wrap (a * 10) = a * 10 := by rw [IntKind.wrap_i64] <;> omega
  have i2 : IntKind.i64.wrap (a * 10 + b) = a * 10 + b := by rw [IntKind.wrap_i64] <;> omega
  have ht : (a * 10 + b).tmod 100 = pv a b := by unfold pv; rw [Int.tmod_eq_emod_of_nonneg (by omega)]; congr 1; omega
  have hv : 0 ≤ pv a b ∧ pv a b < 100 := by unfold pv; omega
  have i3 : IntKind.i64.wrap (pv a b) = pv a b := by rw [IntKind.wrap_i64] <;> omega
  generalize pv a b = P at *
  go_enter Tryz.func128, Tryz.ntmps128
  go_wp2_with fail
  go_ret
  exact ⟨rfl, Below.refl _ _⟩
end Go.Proofs.YtldejkhemkjcgaaGreatDoor
namespace Go.Proofs.YtldejkhemkjcgaaGreatDoor
open Go.RowKit
end Go.Proofs.YtldejkhemkjcgaaGreatDoor
namespace Go.Proofs.YtldejkhemkjcgaaGreatDoor
open Go.RowKit
set_option maxRecDepth 100000 in
theorem pairVal_any {a b : Int} (ha : 0 ≤ a) (ha' : a ≤ 99) (hb : 0 ≤ b) (hb' : b ≤ 99) (w : World) :
    Calls Tryz.prog 141 #[.int .i64 a, .int .i64 b] w fun e w' => e = .returned (.int .i64 (pv a b)) ∧ Below w.heap.size w w' := by
  have i1 : IntKind.i64.wrap (10 * a) = 10 * a := by rw [IntKind.wrap_i64] <;> omega
  have i2 : IntKind.i64.wrap (10 * a + b) = 10 * a + b := by rw [IntKind.wrap_i64] <;> omega
  go_enter Tryz.func141, Tryz.ntmps141
  go_wp2_with fail
  refine (valOf_any (10 * a + b) _).mono ?_
  rintro e w1 ⟨rfl, hb1⟩
  go_wp2_with fail
  go_ret
  exact ⟨rfl, hb1⟩
end Go.Proofs.YtldejkhemkjcgaaGreatDoor
