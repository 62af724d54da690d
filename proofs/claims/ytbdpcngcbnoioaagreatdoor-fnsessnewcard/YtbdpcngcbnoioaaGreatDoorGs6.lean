import Derived.Test.YtbdpcngcbnoioaaGreatDoorGm1
import Derived.Test.YtbdpcngcbnoioaaGreatDoorGa8
import Derived.Test.YtbdpcngcbnoioaaGreatDoorGs2
namespace Go.Proofs.YtbdpcngcbnoioaaGreatDoor
open Go.RowKit
def kp (l : List (Int × Int)) (j : Nat) : Bool := decide (j = 0 ∨ ¬ (tA l j = tA l (j - 1) ∧ tB l j = tB l (j - 1)))
def compTo (l : List (Int × Int)) (m : Nat) : List (Int × Int) := ((List.range m).filter (kp l)).map fun j => (tA l j, tB l j)
theorem comp_succ (l : List (Int × Int)) (m : Nat) : compTo l (m + 1) = compTo l m ++ (if kp l m then [(tA l m, tB l m)] else []) := by
  unfold compTo
  rw [List.range_succ, List.filter_append, List.map_append]
  congr 1
  by_cases h : kp l m <;> simp [h]
theorem range_get (l : List (Int × Int)) : ∀ m, m ≤ l.length → (List.range m).map (fun j => (tA l j, tB l j)) = l.take m := by
  intro m hm
  apply List.ext_getElem?
  intro i
  by_cases hi : i < m
  · rw [List.getElem?_take, if_pos hi, List.getElem?_eq_getElem (show i < l.length by omega)]
    simp [hi, tA, tB, show i < l.length by omega]
  · rw [List.getElem?_take, if_neg hi, List.getElem?_eq_none (by simp; omega)]
theorem comp_all {l : List (Int × Int)} {m : Nat} (hm : m ≤ l.length) (h : ∀ j, j < m → kp l j = true) : compTo l m = l.take m := by
  unfold compTo
  rw [List.filter_eq_self.2 (fun j hj => h j (List.mem_range.1 hj)), range_get l m hm]
structure CompI (l : List (Int × Int)) (i j : Nat) (c : Array Value) : Prop where
  lt : i < j
  le : j ≤ l.length
  len : (compTo l j).length = i
  low : Fill c (compTo l j) i
  high : ∀ m, i ≤ m → m < l.length → c[m * 2]? = some (.int .i64 (tA l m)) ∧ c[m * 2 + 1]? = some (.int .i64 (tB l m))
theorem CompI.start {l : List (Int × Int)} {k : Nat} {c : Array Value} (hk : k < l.length) (hno : kp l k = false) (hyes : ∀ i, i < k → kp l i = true) (hf : Fill c l l.length) : CompI l k (k + 1) c := by
  have e : compTo l (k + 1) = l.take k := by
    rw [comp_succ, hno, comp_all (by omega) hyes]; simp
  refine ⟨by omega, hk, by rw [e, List.length_take]; omega, fun i hi => ?_, fun m _ hm => hf m hm⟩
  have e1 : tA (l.take k) i = tA l i ∧ tB (l.take k) i = tB l i := by
    have : i < (l.take k).length := by rw [List.length_take]; omega
    simp [tA, tB, hi]
  rw [e, e1.1, e1.2]
  exact hf i (by omega)
theorem CompI.skip {l : List (Int × Int)} {i j : Nat} {c : Array Value} (h : CompI l i j c) (hj : j < l.length) (hy : kp l j = false) : CompI l i (j + 1) c := by
  have e : compTo l (j + 1) = compTo l j := by rw [comp_succ, hy]; simp
  exact ⟨by have := h.lt; omega, hj, by rw [e]; exact h.len, by rw [e]; exact h.low, h.high⟩
theorem CompI.keep {l : List (Int × Int)} {i j : Nat} {c : Array Value} (h : CompI l i j c) (hj : j < l.length) (hs : l.length * 2 ≤ c.size) (hy : kp l j = true) :
    CompI l (i + 1) (j + 1) ((c.setIfInBounds (i * 2) (.int .i64 (tA l j))).setIfInBounds (i * 2 + 1) (.int .i64 (tB l j))) := by
  have hlt := h.lt
  have hlen := h.len
  have e : compTo l (j + 1) = compTo l j ++ [(tA l j, tB l j)] := by rw [comp_succ, hy]; rfl
  have hlow := h.low
  have h0 : Fill c (compTo l (j + 1)) i := by
    intro q hq
    have := hlow q hq
    rw [e]
    have e1 : tA (compTo l j ++ [(tA l j, tB l j)]) q = tA (compTo l j) q ∧ tB (compTo l j ++ [(tA l j, tB l j)]) q = tB (compTo l j) q := by
      generalize compTo l j = F at *
      have : q < F.length := by omega
      simp [tA, tB, List.getElem?_append, this]
    rw [e1.1, e1.2]; exact this
  have h1 := h0.step (k := i) (by omega)
  have e2 : tA (compTo l (j + 1)) i = tA l j ∧ tB (compTo l (j + 1)) i = tB l j := by
    rw [e]
    generalize compTo l j = F at *
    generalize tA l j = X
    generalize tB l j = Y
    subst hlen
    simp [tA, tB]
  rw [e2.1, e2.2] at h1
  refine ⟨by omega, hj, by rw [e, List.length_append]; simp [hlen], h1, fun m a b => ?_⟩
  have n1 : ¬ i * 2 + 1 = m * 2 := by omega
  have n2 : ¬ i * 2 = m * 2 := by omega
  have n3 : ¬ i * 2 + 1 = m * 2 + 1 := by omega
  have n4 : ¬ i * 2 = m * 2 + 1 := by omega
  simp only [Array.getElem?_setIfInBounds, n1, n2, n3, n4, if_false]
  exact h.high m (by omega) b
end Go.Proofs.YtbdpcngcbnoioaaGreatDoor
namespace Go.Proofs.YtbdpcngcbnoioaaGreatDoor
end Go.Proofs.YtbdpcngcbnoioaaGreatDoor
namespace Go.Proofs.YtbdpcngcbnoioaaGreatDoor
open Go.RowKit
end Go.Proofs.YtbdpcngcbnoioaaGreatDoor
namespace Go.Proofs.YtbdpcngcbnoioaaGreatDoor
open Go.RowKit
end Go.Proofs.YtbdpcngcbnoioaaGreatDoor
