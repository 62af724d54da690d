/- Slices of times in memory, and what a front is: plain facts. -/
import Derived.Test.YtbmdfmboabfceaaTimeA
import Derived.Test.YtbmdfmboabfceaaBase2
namespace Go.Proofs.Ytbmdfmboabfceaa
open Go.RowKit

def tA (l : List (Int × Int)) (i : Nat) : Int := (l.getD i (0, 0)).1
def tB (l : List (Int × Int)) (i : Nat) : Int := (l.getD i (0, 0)).2
/-- The slice v holds the times l. -/
def Ts (w : World) (v : Value) (l : List (Int × Int)) : Prop :=
  ∃ a cap, v = .slice a l.length cap ∧ l.length ≤ cap ∧ cap ≤ maxLen ∧ l.length ≤ 2097152 ∧ ∀ i : Nat, i < l.length → ∃ g off, a = some ⟨g, off, none⟩ ∧ g < w.heap.size ∧
    w.cell? ⟨g, off + i * 2, none⟩ = some (.int .i64 (tA l i)) ∧ w.cell? ⟨g, off + i * 2 + 1, none⟩ = some (.int .i64 (tB l i))
theorem Ts.keep {w w1 : World} {v : Value} {l : List (Int × Int)} (h : Ts w v l) (hb : Below w.heap.size w w1) : Ts w1 v l := by
  obtain ⟨a, cap, rfl, h1, h2, h3, h4⟩ := h
  refine ⟨a, cap, rfl, h1, h2, h3, fun i hi => ?_⟩
  obtain ⟨g, off, rfl, hg, c0, c1⟩ := h4 i hi
  exact ⟨g, off, rfl, Nat.lt_of_lt_of_le hg hb.size, cell_below hb c0, cell_below hb c1⟩
theorem Ts.drew {w : World} {v : Value} {l : List (Int × Int)} (h : Ts w v l) : Ts w.drew v l := h
/-- What place i of a list must be like in a front. -/
def stepOk (l : List (Int × Int)) (i : Nat) : Bool := okB (tA l i) (tB l i) && (decide (i = 0) || (decide (tA l (i - 1) < tA l i) && decide (tB l i < tB l (i - 1))))
def fokB (l : List (Int × Int)) : Bool := (List.range l.length).all (stepOk l)
theorem fok_false {l : List (Int × Int)} {k : Nat} (hk : k < l.length) (h : stepOk l k = false) : fokB l = false := by
  unfold fokB; rw [List.all_eq_false]; exact ⟨k, by simpa using hk, by simp [h]⟩
theorem fok_true {l : List (Int × Int)} (h : ∀ j, j < l.length → stepOk l j = true) : fokB l = true := by
  unfold fokB; rw [List.all_eq_true]; intro j hj; exact h j (by simpa using hj)
theorem fok_at {l : List (Int × Int)} (h : fokB l = true) {j : Nat} (hj : j < l.length) : stepOk l j = true := by
  unfold fokB at h; rw [List.all_eq_true] at h; exact h j (by simpa using hj)
theorem stepOk_zero {l : List (Int × Int)} {X Y : Int} (hX : tA l 0 = X) (hY : tB l 0 = Y) : stepOk l 0 = okB X Y := by simp [stepOk, hX, hY]
theorem stepOk_succ {l : List (Int × Int)} {m : Nat} {X Y X' Y' : Int} (hX : tA l (m + 1) = X) (hY : tB l (m + 1) = Y) (hX' : tA l m = X') (hY' : tB l m = Y') :
    stepOk l (m + 1) = (okB X Y && (decide (X' < X) && decide (Y < Y'))) := by simp [stepOk, hX, hY, hX', hY']
end Go.Proofs.Ytbmdfmboabfceaa
