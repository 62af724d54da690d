/- A slice of rows that came in, opened. -/
import Derived.Test.YtepegedlgjcolaaBa4
import Derived.Test.YtepegedlgjcolaaFr4
import Derived.ProofKit
import Derived.OpenShut
import Derived.ShutString
import Derived.ChangeOld
import Derived.Below
import Derived.Lib.SmallJoins
import Derived.Deep.SlicePairs
namespace Go.Proofs.Ytepegedlgjcolaa
open Go.ChangeShapes Go.WideShapes Go.ChangeAt Go.RowKit Go.Joins

/-- A slice of rows that came in. -/
def RsArg (w : World) (a : Option Addr) (len cap : Nat) : Prop :=
  len ≤ cap ∧ cap ≤ maxLen ∧ ∃ q : Nat → Rw, ∀ i : Nat, i < len → ∃ g off, a = some ⟨g, off, none⟩ ∧ g < w.heap.size ∧ ∀ j, j < 5 → w.cell? ⟨g, off + i * 5 + j, none⟩ = (rowC (q i))[j]?
theorem RsArg.rs {w : World} {a : Option Addr} {len cap : Nat} (h : RsArg w a len cap) (hn : len ≤ 2097152) : ∃ l : List Rw, l.length = len ∧ Rs w (.slice a len cap) l := by
  obtain ⟨h1, h2, q, h3⟩ := h
  refine ⟨(List.range len).map q, by simp, a, cap, by simp, by simpa using h1, h2, by simpa using hn, fun i x hi => ?_⟩
  have hi' : i < len := by simpa using (List.getElem?_eq_some_iff.1 hi).1
  have : x = q i := by simp [hi'] at hi; exact hi.symm
  subst this
  exact h3 i hi'
theorem list5 {α : Type} {l : List α} (h : l.length = 5) : ∃ a b c d e, l = [a, b, c, d, e] :=
  match l, h with
  | [a, b, c, d, e], _ => ⟨a, b, c, d, e, rfl⟩
theorem cellsR : Try.prog.cellsOf 93 = 5 := by kernel_rfl
theorem RsArg.of_trod {H : Type} {enc : TypeId × Value → H} {w : World} {base : Nat} {sp : Nat → Bool} {held : Bool} {a : Option Addr} {len cap : Nat} {d : DataW H} {p : List MemPlace}
    (h : DataW.Trod enc Try.prog w base sp held 50 (.slice a len cap) d p) : RsArg w a len cap := by
  obtain ⟨fuel, hf⟩ := h
  rcases Go.Deep.open_slice Try.underlying50 hf with ⟨hcs, _⟩ | ⟨x, l, c, m, n, D, Pl, hcs, _, hl, hm, hmm, _, hx⟩
  · simp [Value.cells] at hcs
    obtain ⟨rfl, rfl, rfl⟩ := hcs
    exact ⟨Nat.le_refl _, by unfold maxLen; omega, fun _ => (((0, 0), (0, 0)), 0), fun i hi => by omega⟩
  · simp [Value.cells] at hcs
    obtain ⟨rfl, rfl, rfl⟩ := hcs
    have hlm : len ≤ m := by rw [hmm]; split <;> omega
    have each : ∀ i, i < len → ∃ q : Rw, ∀ j, j < 5 → w.cell? (x.add (i * 5 + j)) = (rowC q)[j]? := by
      intro i hi
      obtain ⟨cs', h1, h2⟩ := hx i (by omega)
      rw [cellsR] at h1
      obtain ⟨_, hlen, hcell⟩ := World.cells?_some h1
      obtain ⟨y0, y1, y2, y3, k, _, _, t0, t1, t2, t3⟩ := trod_struct4 Try.underlying93 h2
      obtain ⟨v0, v1, v2, v3, v4, rfl⟩ := list5 hlen
      simp [cellsI, cellsT] at t0 t1 t2 t3
      obtain ⟨z0, z1, k', _, _, s0, s1⟩ := trod_struct2 Try.underlying55 t2
      simp [cellsI] at s0 s1
      obtain ⟨n0, e0, _, _⟩ := DataW.trod_int Try.underlying3 t0
      obtain ⟨n1, e1, _, _⟩ := DataW.trod_int Try.underlying3 t1
      obtain ⟨n2, e2, _, _⟩ := DataW.trod_int Try.underlying3 s0
      obtain ⟨n3, e3, _, _⟩ := DataW.trod_int Try.underlying3 s1
      obtain ⟨n4, e4, _, _⟩ := DataW.trod_int Try.underlying3 t3
      simp at e0 e1 e2 e3 e4
      refine ⟨(((n0, n1), (n2, n3)), n4), fun j hj => ?_⟩
      have := hcell j hj
      rw [Go.Deep.add_add] at this
      rw [this, e0, e1, e2, e3, e4]
    obtain ⟨q, hq⟩ := Go.Deep.choose_lt each
    refine ⟨hl, hm, q, fun i hi => ?_⟩
    obtain ⟨b, off, spot⟩ := x
    have hspot : spot = none := by
      have h0 := World.cell?_spot (hq 0 (by omega) 0 (by omega))
      simpa [Addr.add] using h0
    subst hspot
    have c0 := hq i hi 0 (by omega)
    rw [add_plain] at c0
    refine ⟨b, off, rfl, lt_of_cell c0, fun j hj => ?_⟩
    have c1 := hq i hi j hj
    rw [add_plain, ← Nat.add_assoc] at c1
    exact c1
end Go.Proofs.Ytepegedlgjcolaa
