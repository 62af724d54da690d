/- A slice of times that came in, opened. -/
import Derived.Test.YtepegedlgjcolaaFr3
import Derived.ProofKit
import Derived.OpenShut
import Derived.ShutString
import Derived.ChangeOld
import Derived.Below
import Derived.Lib.SmallJoins
import Derived.Deep.SlicePairs
namespace Go.Proofs.Ytepegedlgjcolaa
open Go.ChangeShapes Go.WideShapes Go.ChangeAt Go.RowKit Go.Joins

/-- A slice of times that came in. -/
def TsArg (w : World) (a : Option Addr) (len cap : Nat) : Prop :=
  len ≤ cap ∧ cap ≤ maxLen ∧ ∃ A B : Nat → Int, ∀ i : Nat, i < len → ∃ g off, a = some ⟨g, off, none⟩ ∧ g < w.heap.size ∧
    w.cell? ⟨g, off + i * 2, none⟩ = some (.int .i64 (A i)) ∧ w.cell? ⟨g, off + i * 2 + 1, none⟩ = some (.int .i64 (B i))
theorem tA_map (A B : Nat → Int) (n i : Nat) (h : i < n) : tA ((List.range n).map fun i => (A i, B i)) i = A i := by simp [tA, h]
theorem tB_map (A B : Nat → Int) (n i : Nat) (h : i < n) : tB ((List.range n).map fun i => (A i, B i)) i = B i := by simp [tB, h]
theorem TsArg.ts {w : World} {a : Option Addr} {len cap : Nat} (h : TsArg w a len cap) (hn : len ≤ 2097152) : ∃ l : List (Int × Int), l.length = len ∧ Ts w (.slice a len cap) l := by
  obtain ⟨h1, h2, A, B, h3⟩ := h
  refine ⟨(List.range len).map fun i => (A i, B i), by simp, a, cap, by simp, by simpa using h1, h2, by simpa using hn, fun i hi => ?_⟩
  simp only [List.length_map, List.length_range] at hi
  rw [tA_map A B len i hi, tB_map A B len i hi]
  exact h3 i hi
theorem cellsT : Try.prog.cellsOf 55 = 2 := by kernel_rfl
theorem cellsI : Try.prog.cellsOf 3 = 1 := by kernel_rfl
theorem TsArg.of_trod {H : Type} {enc : TypeId × Value → H} {w : World} {base : Nat} {sp : Nat → Bool} {held : Bool} {a : Option Addr} {len cap : Nat} {d : DataW H} {p : List MemPlace}
    (h : DataW.Trod enc Try.prog w base sp held 61 (.slice a len cap) d p) : TsArg w a len cap := by
  obtain ⟨fuel, hf⟩ := h
  rcases Go.Deep.open_slice_pairs Try.underlying61 Try.underlying55 cellsT rfl rfl cellsI cellsI hf with ⟨hcs, _⟩ | ⟨x, l, c, m, n, V0, V1, D0, D1, P0, P1, hcs, _, hl, hm, hmm, _, hx⟩
  · simp [Value.cells] at hcs
    obtain ⟨rfl, rfl, rfl⟩ := hcs
    exact ⟨Nat.le_refl _, by unfold maxLen; omega, fun _ => 0, fun _ => 0, fun i hi => by omega⟩
  · simp [Value.cells] at hcs
    obtain ⟨rfl, rfl, rfl⟩ := hcs
    have hlm : len ≤ m := by rw [hmm]; split <;> omega
    have each : ∀ i, i < len → ∃ q : Int × Int, w.cell? (x.add (i * 2)) = some (.int .i64 q.1) ∧ w.cell? (x.add (i * 2 + 1)) = some (.int .i64 q.2) := by
      intro i hi
      obtain ⟨h0, h1, t0, t1⟩ := hx i (by omega)
      obtain ⟨u, e0, _, _⟩ := DataW.trod_int Try.underlying3 t0
      obtain ⟨v, e1, _, _⟩ := DataW.trod_int Try.underlying3 t1
      simp at e0 e1
      exact ⟨(u, v), by rw [h0, e0], by rw [h1, e1]⟩
    obtain ⟨q, hq⟩ := Go.Deep.choose_lt each
    refine ⟨hl, hm, fun i => (q i).1, fun i => (q i).2, fun i hi => ?_⟩
    obtain ⟨b, off, spot⟩ := x
    have hspot : spot = none := by
      have h0 := World.cell?_spot (hq 0 (by omega)).1
      simpa [Addr.add] using h0
    subst hspot
    obtain ⟨c0, c1⟩ := hq i hi
    rw [add_plain] at c0 c1
    rw [← Nat.add_assoc] at c1
    exact ⟨b, off, rfl, lt_of_cell c0, c0, c1⟩
end Go.Proofs.Ytepegedlgjcolaa
