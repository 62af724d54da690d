/- What the laws' own functions on slices of times answer: contracts. -/
import Derived.Test.YtbmdfmboabfceaaFr0
import Derived.Test.YtbmdfmboabfceaaToTime
namespace Go.Proofs.Ytbmdfmboabfceaa
open Go.RowKit

theorem Bk.cell {w : World} {k : Nat} {c : Array Value} {t : TypeId} (h : Bk w k c t) {i : Nat} {v : Value} (hi : c[i]? = some v) : w.cell? ⟨k, i, none⟩ = some v := by
  unfold Bk at h; simp [World.cell?, h, hi]
theorem Bk.free {w : World} {k : Nat} {c : Array Value} {t : TypeId} (h : Bk w k c t) (i : Nat) : w.frozen? ⟨k, i, none⟩ = false := by
  unfold Bk at h; simp [World.frozen?, h]
/-- The first k times of l stand at the head of the cells c. -/
def Fill (c : Array Value) (l : List (Int × Int)) (k : Nat) : Prop :=
  ∀ i, i < k → c[i * 2]? = some (.int .i64 (tA l i)) ∧ c[i * 2 + 1]? = some (.int .i64 (tB l i))
theorem Fill.step {c : Array Value} {l : List (Int × Int)} {k : Nat} (h : Fill c l k) (hs : k * 2 + 1 < c.size) :
    Fill ((c.setIfInBounds (k * 2) (.int .i64 (tA l k))).setIfInBounds (k * 2 + 1) (.int .i64 (tB l k))) l (k + 1) := by
  intro i hi
  by_cases e : i = k
  · subst e
    simp [Array.getElem?_setIfInBounds]; omega
  · obtain ⟨h1, h2⟩ := h i (by omega)
    have n1 : ¬ k * 2 + 1 = i * 2 := by omega
    have n2 : ¬ k * 2 = i * 2 := by omega
    have n3 : ¬ k * 2 + 1 = i * 2 + 1 := by omega
    have n4 : ¬ k * 2 = i * 2 + 1 := by omega
    simp only [Array.getElem?_setIfInBounds, n1, n2, n3, n4, if_false]
    exact ⟨h1, h2⟩
theorem Ts.of_blk {w : World} {g cap : Nat} {c : Array Value} {t : TypeId} {l : List (Int × Int)} (h : Bk w g c t) (hf : Fill c l l.length) (hc : l.length ≤ cap) (hm : cap ≤ maxLen) (hn : l.length ≤ 2097152) :
    Ts w (.slice (some ⟨g, 0, none⟩) l.length cap) l := by
  refine ⟨_, cap, rfl, hc, hm, hn, fun i hi => ⟨g, 0, rfl, h.lt, ?_, ?_⟩⟩
  · rw [Nat.zero_add]; exact h.cell (hf i hi).1
  · rw [Nat.zero_add]; exact h.cell (hf i hi).2

theorem make_times (n : Nat) (hn : n ≤ 2097152) : ∃ M : Array Value, M.size = n * 2 ∧ ∀ u : World, (Instr.makeSlice 37 (.int .i64 (n : Int)) (.int .i64 (n : Int))).run Try.prog u = .ok (.slice (some ⟨u.heap.size, 0, none⟩) n n) (u.alloc (.cells M 31)) := by
  have infoT : (Try.prog.info? 31).map (fun i => (i.zero, i.size, i.bytes)) = some (some (.agg #[.int .i64 0, .int .i64 0]), 2, 16) := by kernel_rfl
  obtain ⟨i0, hi, hz0, hz1, hz2⟩ := info_parts infoT
  refine ⟨madeCells (Value.agg #[.int .i64 0, .int .i64 0]).cells (n * i0.size), by rw [size_madeCells, hz1], fun u => ?_⟩
  have := run_make (P := Try.prog) u 37 31 i0 _ Try.underlying37 hi hz0 .i64 .i64 (n : Int) (n : Int) (by omega) (by omega) (by rw [hz2]; omega) (by omega)
  simpa using this

end Go.Proofs.Ytbmdfmboabfceaa
