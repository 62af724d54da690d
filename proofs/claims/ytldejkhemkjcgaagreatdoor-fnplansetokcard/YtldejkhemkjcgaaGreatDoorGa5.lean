import Derived.Test.YtldejkhemkjcgaaGreatDoorGa1
import Derived.Deep.AppendLies
import Derived.ProofKit
import Derived.OpenShut
import Derived.ShutString
import Derived.ChangeOld
import Derived.Below
import Derived.Lib.SmallJoins
import Derived.Deep.SlicePairs
namespace Go.Proofs.YtldejkhemkjcgaaGreatDoor
open Go.RowKit
theorem own_empty (w : World) (e : TypeId) (size : Nat) : (w.alloc (.cells #[] e)).ownsRow w.heap.size e size (.slice (some ⟨w.heap.size, 0, none⟩) 0 0) 0 [] :=
  ⟨by simp, .inr ⟨w.heap.size, 0, #[], rfl, Nat.le_refl _, heap_alloc_new w _, Nat.le_refl _, by unfold maxLen; omega, by simp, by simp⟩⟩
end Go.Proofs.YtldejkhemkjcgaaGreatDoor
namespace Go.Proofs.YtldejkhemkjcgaaGreatDoor
open Go.RowKit
def tA (l : List (Int × Int)) (i : Nat) : Int := (l.getD i (0, 0)).1
def tB (l : List (Int × Int)) (i : Nat) : Int := (l.getD i (0, 0)).2
def Ts (w : World) (v : Value) (l : List (Int × Int)) : Prop :=
  ∃ a cap, v = .slice a l.length cap ∧ l.length ≤ cap ∧ cap ≤ maxLen ∧ l.length ≤ 2097152 ∧ ∀ i : Nat, i < l.length → ∃ g off, a = some ⟨g, off, none⟩ ∧ g < w.heap.size ∧
    w.cell? ⟨g, off + i * 2, none⟩ = some (.int .i64 (tA l i)) ∧ w.cell? ⟨g, off + i * 2 + 1, none⟩ = some (.int .i64 (tB l i))
theorem Ts.keep {w w1 : World} {v : Value} {l : List (Int × Int)} (h : Ts w v l) (hb : Below w.heap.size w w1) : Ts w1 v l := by
  obtain ⟨a, cap, rfl, h1, h2, h3, h4⟩ := h
  refine ⟨a, cap, rfl, h1, h2, h3, fun i hi => ?_⟩
  obtain ⟨g, off, rfl, hg, c0, c1⟩ := h4 i hi
  exact ⟨g, off, rfl, Nat.lt_of_lt_of_le hg hb.size, cell_below hb c0, cell_below hb c1⟩
theorem Ts.drew {w : World} {v : Value} {l : List (Int × Int)} (h : Ts w v l) : Ts w.drew v l := h
end Go.Proofs.YtldejkhemkjcgaaGreatDoor
namespace Go.Proofs.YtldejkhemkjcgaaGreatDoor
open Go.RowKit
end Go.Proofs.YtldejkhemkjcgaaGreatDoor
namespace Go.Proofs.YtldejkhemkjcgaaGreatDoor
open Go.RowKit
theorem specOk_eq {a b : Int} {r : Bool} (h : okB a b = r) (w : World) : Calls Tryz.prog 29 #[tv a b] w fun e w' => e = .returned (.bool r) ∧ Below w.heap.size w w' := by
  rw [← h]; exact specOk_any a b w
end Go.Proofs.YtldejkhemkjcgaaGreatDoor
namespace Go.Proofs.YtldejkhemkjcgaaGreatDoor
open Go.RowKit
theorem Bk.cell {w : World} {k : Nat} {c : Array Value} {t : TypeId} (h : Bk w k c t) {i : Nat} {v : Value} (hi : c[i]? = some v) : w.cell? ⟨k, i, none⟩ = some v := by
  unfold Bk at h; simp [World.cell?, h, hi]
theorem Bk.free {w : World} {k : Nat} {c : Array Value} {t : TypeId} (h : Bk w k c t) (i : Nat) : w.frozen? ⟨k, i, none⟩ = false := by
  unfold Bk at h; simp [World.frozen?, h]
def Fill (c : Array Value) (l : List (Int × Int)) (k : Nat) : Prop :=
  ∀ i, i < k → c[i * 2]? = some (.int .i64 (tA l i)) ∧ c[i * 2 + 1]? = some (.int .i64 (tB l i))
theorem Fill.step {c : Array Value} {l : List (Int × Int)} {k : Nat} (h : Fill c l k) (hs : k * 2 + 1 < c.size) :
    Fill ((c.setIfInBounds (k * 2) (.int .i64 (tA l k))).setIfInBounds (k * 2 + 1) (.int .i64 (tB l k))) l (k + 1) := by
  intro i hi
  by_cases e : i = k
  · subst e
    simp [Array.getElem?_setIfInBounds]; omega
  · obtain ⟨h1, h2⟩ := h i (by omega)
    have n1 : ¬ k * 2 + 1 = i * 2 := by omega
    have n2 : ¬ k * 2 = i * 2 := by omega
    have n3 : ¬ k * 2 + 1 = i * 2 + 1 := by omega
    have n4 : ¬ k * 2 = i * 2 + 1 := by omega
    simp only [Array.getElem?_setIfInBounds, n1, n2, n3, n4, if_false]
    exact ⟨h1, h2⟩
end Go.Proofs.YtldejkhemkjcgaaGreatDoor
namespace Go.Proofs.YtldejkhemkjcgaaGreatDoor
open Go.ChangeShapes Go.WideShapes Go.ChangeAt Go.RowKit Go.Joins
end Go.Proofs.YtldejkhemkjcgaaGreatDoor
