/- What the list of all times holds: a contract. -/
import Derived.Test.YtpkfgjloepbfpaaDoorGa1
import Derived.Deep.AppendLies
import Derived.ProofKit
import Derived.OpenShut
import Derived.ShutString
import Derived.ChangeOld
import Derived.Below
import Derived.Lib.SmallJoins
import Derived.Deep.SlicePairs
/-! What the list of all times holds: a contract. -/
namespace Go.Proofs.YtpkfgjloepbfpaaDoor
open Go.RowKit

/-- The cells of the first n of all times, in order. -/
def tc (n : Nat) : List Value := (List.range n).flatMap fun i => [.int .i64 ((i / 8 : Nat) : Int), .int .i64 ((i % 8 : Nat) : Int)]
theorem tc_succ (n : Nat) : tc (n + 1) = tc n ++ [.int .i64 ((n / 8 : Nat) : Int), .int .i64 ((n % 8 : Nat) : Int)] := by
  unfold tc; rw [List.range_succ, List.flatMap_append]; simp
theorem tc_length (n : Nat) : (tc n).length = n * 2 := by
  induction n with
  | zero => rfl
  | succ n ih => rw [tc_succ, List.length_append, ih]; simp; omega
theorem tc_get (n i : Nat) (h : i < n) : (tc n)[2 * i]? = some (.int .i64 ((i / 8 : Nat) : Int)) ∧ (tc n)[2 * i + 1]? = some (.int .i64 ((i % 8 : Nat) : Int)) := by
  induction n with
  | zero => omega
  | succ n ih =>
    rw [tc_succ]
    have hl := tc_length n
    by_cases hi : i < n
    · obtain ⟨h1, h2⟩ := ih hi
      rw [List.getElem?_append_left (by omega), List.getElem?_append_left (by omega)]
      exact ⟨h1, h2⟩
    · have : i = n := by omega
      subst this
      rw [List.getElem?_append_right (by omega), List.getElem?_append_right (by omega)]
      have e1 : 2 * i - (tc i).length = 0 := by omega
      have e2 : 2 * i + 1 - (tc i).length = 1 := by omega
      rw [e1, e2]; simp
theorem news2 (w : World) (x y : Value) (t : TypeId) : ∀ j u, [x, y][j]? = some u → (w.alloc (.cells #[x, y] t)).cell? ((⟨w.heap.size, 0, none⟩ : Addr).add j) = some u := by
  intro j u hj
  match j, hj with
  | 0, hj => simp at hj; subst hj; simp [Addr.add]
  | 1, hj => simp at hj; subst hj; simp [Addr.add]
theorem ones2 (a b : Int) : ∀ u ∈ [Value.int .i64 a, Value.int .i64 b], u.oneCell' = true := by
  intro u hu; simp at hu; rcases hu with rfl | rfl <;> rfl
theorem own_base {w : World} {B : Nat} {e : TypeId} {size : Nat} {v : Value} {n : Nat} {xs : List Value} (h : w.ownsRow B e size v n xs) : ∀ k, v.ownBlock = some k → B ≤ k := by
  obtain ⟨_, h2⟩ := h
  intro k hk
  rcases h2 with ⟨rfl, _⟩ | ⟨g, cap, cur, rfl, hg, _⟩
  · simp [Value.ownBlock] at hk
  · simp [Value.ownBlock] at hk; omega
theorem own_some {w : World} {B : Nat} {e : TypeId} {size : Nat} {v : Value} {n : Nat} {xs : List Value} (h : w.ownsRow B e size v n xs) (hn : 0 < n) : ∃ g cap, v = .slice (some ⟨g, 0, none⟩) n cap ∧ B ≤ g := by
  obtain ⟨_, h2⟩ := h
  rcases h2 with ⟨_, h0⟩ | ⟨g, cap, cur, rfl, hg, _⟩
  · omega
  · exact ⟨g, cap, rfl, hg⟩
theorem own_empty (w : World) (e : TypeId) (size : Nat) : (w.alloc (.cells #[] e)).ownsRow w.heap.size e size (.slice (some ⟨w.heap.size, 0, none⟩) 0 0) 0 [] :=
  ⟨by simp, .inr ⟨w.heap.size, 0, #[], rfl, Nat.le_refl _, heap_alloc_new w _, Nat.le_refl _, by unfold maxLen; omega, by simp, by simp⟩⟩

theorem all_cells {w : World} {B g cap : Nat} {e : TypeId} (h : w.ownsRow B e 2 (.slice (some ⟨g, 0, none⟩) 64 cap) 64 (tc 64)) {k : Nat} (hk : k < 64) :
    w.cell? ⟨g, k * 2, none⟩ = some (.int .i64 ((k / 8 : Nat) : Int)) ∧ w.cell? ⟨g, k * 2 + 1, none⟩ = some (.int .i64 ((k % 8 : Nat) : Int)) := by
  obtain ⟨h1, h2⟩ := tc_get 64 k hk
  rw [h.cellAt _ (by omega), h.cellAt _ (by omega), Nat.mul_comm k 2]
  exact ⟨h1, h2⟩

end Go.Proofs.YtpkfgjloepbfpaaDoor

/-! Slices of times in memory, and what a front is: plain facts. -/
namespace Go.Proofs.YtpkfgjloepbfpaaDoor
open Go.RowKit

def tA (l : List (Int × Int)) (i : Nat) : Int := (l.getD i (0, 0)).1
def tB (l : List (Int × Int)) (i : Nat) : Int := (l.getD i (0, 0)).2
/-- The slice v holds the times l. -/
def Ts (w : World) (v : Value) (l : List (Int × Int)) : Prop :=
  ∃ a cap, v = .slice a l.length cap ∧ l.length ≤ cap ∧ cap ≤ maxLen ∧ l.length ≤ 2097152 ∧ ∀ i : Nat, i < l.length → ∃ g off, a = some ⟨g, off, none⟩ ∧ g < w.heap.size ∧
    w.cell? ⟨g, off + i * 2, none⟩ = some (.int .i64 (tA l i)) ∧ w.cell? ⟨g, off + i * 2 + 1, none⟩ = some (.int .i64 (tB l i))
theorem Ts.keep {w w1 : World} {v : Value} {l : List (Int × Int)} (h : Ts w v l) (hb : Below w.heap.size w w1) : Ts w1 v l := by
  obtain ⟨a, cap, rfl, h1, h2, h3, h4⟩ := h
  refine ⟨a, cap, rfl, h1, h2, h3, fun i hi => ?_⟩
  obtain ⟨g, off, rfl, hg, c0, c1⟩ := h4 i hi
  exact ⟨g, off, rfl, Nat.lt_of_lt_of_le hg hb.size, cell_below hb c0, cell_below hb c1⟩
theorem Ts.drew {w : World} {v : Value} {l : List (Int × Int)} (h : Ts w v l) : Ts w.drew v l := h
/-- What place i of a list must be like in a front. -/
def stepOk (l : List (Int × Int)) (i : Nat) : Bool := okB (tA l i) (tB l i) && (decide (i = 0) || (decide (tA l (i - 1) < tA l i) && decide (tB l i < tB l (i - 1))))
def fokB (l : List (Int × Int)) : Bool := (List.range l.length).all (stepOk l)
theorem fok_false {l : List (Int × Int)} {k : Nat} (hk : k < l.length) (h : stepOk l k = false) : fokB l = false := by
  unfold fokB; rw [List.all_eq_false]; exact ⟨k, by simpa using hk, by simp [h]⟩
theorem fok_true {l : List (Int × Int)} (h : ∀ j, j < l.length → stepOk l j = true) : fokB l = true := by
  unfold fokB; rw [List.all_eq_true]; intro j hj; exact h j (by simpa using hj)
theorem fok_at {l : List (Int × Int)} (h : fokB l = true) {j : Nat} (hj : j < l.length) : stepOk l j = true := by
  unfold fokB at h; rw [List.all_eq_true] at h; exact h j (by simpa using hj)
theorem stepOk_zero {l : List (Int × Int)} {X Y : Int} (hX : tA l 0 = X) (hY : tB l 0 = Y) : stepOk l 0 = okB X Y := by simp [stepOk, hX, hY]
theorem stepOk_succ {l : List (Int × Int)} {m : Nat} {X Y X' Y' : Int} (hX : tA l (m + 1) = X) (hY : tB l (m + 1) = Y) (hX' : tA l m = X') (hY' : tB l m = Y') :
    stepOk l (m + 1) = (okB X Y && (decide (X' < X) && decide (Y < Y'))) := by simp [stepOk, hX, hY, hX', hY']
end Go.Proofs.YtpkfgjloepbfpaaDoor

/-! What FrontOk answers, of the program and of its model: contracts. -/
namespace Go.Proofs.YtpkfgjloepbfpaaDoor
open Go.RowKit

theorem upto_one {l : List (Int × Int)} (h : stepOk l 0 = true) {j : Nat} (hj : j < 1) : stepOk l j = true := by
  obtain rfl : j = 0 := by omega
  exact h
theorem upto_succ {l : List (Int × Int)} {k : Nat} (h : ∀ j, j < k → stepOk l j = true) (hk : stepOk l k = true) {j : Nat} (hj : j < k + 1) : stepOk l j = true := by
  by_cases e : j = k
  · subst e; exact hk
  · exact h j (by omega)

end Go.Proofs.YtpkfgjloepbfpaaDoor

/-! What FrontOk of the model answers: a contract. -/
namespace Go.Proofs.YtpkfgjloepbfpaaDoor
open Go.RowKit
end Go.Proofs.YtpkfgjloepbfpaaDoor

/-! What the laws' own functions on slices of times answer: contracts. -/
namespace Go.Proofs.YtpkfgjloepbfpaaDoor
open Go.RowKit

theorem Bk.cell {w : World} {k : Nat} {c : Array Value} {t : TypeId} (h : Bk w k c t) {i : Nat} {v : Value} (hi : c[i]? = some v) : w.cell? ⟨k, i, none⟩ = some v := by
  unfold Bk at h; simp [World.cell?, h, hi]
theorem Bk.free {w : World} {k : Nat} {c : Array Value} {t : TypeId} (h : Bk w k c t) (i : Nat) : w.frozen? ⟨k, i, none⟩ = false := by
  unfold Bk at h; simp [World.frozen?, h]
/-- The first k times of l stand at the head of the cells c. -/
def Fill (c : Array Value) (l : List (Int × Int)) (k : Nat) : Prop :=
  ∀ i, i < k → c[i * 2]? = some (.int .i64 (tA l i)) ∧ c[i * 2 + 1]? = some (.int .i64 (tB l i))
theorem Fill.step {c : Array Value} {l : List (Int × Int)} {k : Nat} (h : Fill c l k) (hs : k * 2 + 1 < c.size) :
    Fill ((c.setIfInBounds (k * 2) (.int .i64 (tA l k))).setIfInBounds (k * 2 + 1) (.int .i64 (tB l k))) l (k + 1) := by
  intro i hi
  by_cases e : i = k
  · subst e
    simp [Array.getElem?_setIfInBounds]; omega
  · obtain ⟨h1, h2⟩ := h i (by omega)
    have n1 : ¬ k * 2 + 1 = i * 2 := by omega
    have n2 : ¬ k * 2 = i * 2 := by omega
    have n3 : ¬ k * 2 + 1 = i * 2 + 1 := by omega
    have n4 : ¬ k * 2 = i * 2 + 1 := by omega
    simp only [Array.getElem?_setIfInBounds, n1, n2, n3, n4, if_false]
    exact ⟨h1, h2⟩
theorem Ts.of_blk {w : World} {g cap : Nat} {c : Array Value} {t : TypeId} {l : List (Int × Int)} (h : Bk w g c t) (hf : Fill c l l.length) (hc : l.length ≤ cap) (hm : cap ≤ maxLen) (hn : l.length ≤ 2097152) :
    Ts w (.slice (some ⟨g, 0, none⟩) l.length cap) l := by
  refine ⟨_, cap, rfl, hc, hm, hn, fun i hi => ⟨g, 0, rfl, h.lt, ?_, ?_⟩⟩
  · rw [Nat.zero_add]; exact h.cell (hf i hi).1
  · rw [Nat.zero_add]; exact h.cell (hf i hi).2

end Go.Proofs.YtpkfgjloepbfpaaDoor

/-! A slice of times that came in, opened. -/
namespace Go.Proofs.YtpkfgjloepbfpaaDoor
open Go.ChangeShapes Go.WideShapes Go.ChangeAt Go.RowKit Go.Joins

/-- A slice of times that came in. -/
def TsArg (w : World) (a : Option Addr) (len cap : Nat) : Prop :=
  len ≤ cap ∧ cap ≤ maxLen ∧ ∃ A B : Nat → Int, ∀ i : Nat, i < len → ∃ g off, a = some ⟨g, off, none⟩ ∧ g < w.heap.size ∧
    w.cell? ⟨g, off + i * 2, none⟩ = some (.int .i64 (A i)) ∧ w.cell? ⟨g, off + i * 2 + 1, none⟩ = some (.int .i64 (B i))
theorem tA_map (A B : Nat → Int) (n i : Nat) (h : i < n) : tA ((List.range n).map fun i => (A i, B i)) i = A i := by simp [tA, h]
theorem tB_map (A B : Nat → Int) (n i : Nat) (h : i < n) : tB ((List.range n).map fun i => (A i, B i)) i = B i := by simp [tB, h]
theorem TsArg.ts {w : World} {a : Option Addr} {len cap : Nat} (h : TsArg w a len cap) (hn : len ≤ 2097152) : ∃ l : List (Int × Int), l.length = len ∧ Ts w (.slice a len cap) l := by
  obtain ⟨h1, h2, A, B, h3⟩ := h
  refine ⟨(List.range len).map fun i => (A i, B i), by simp, a, cap, by simp, by simpa using h1, h2, by simpa using hn, fun i hi => ?_⟩
  simp only [List.length_map, List.length_range] at hi
  rw [tA_map A B len i hi, tB_map A B len i hi]
  exact h3 i hi
theorem cellsI : Tryd.prog.cellsOf 3 = 1 := by kernel_rfl
end Go.Proofs.YtpkfgjloepbfpaaDoor
