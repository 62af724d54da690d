/- The two kinds of keys of the program's maps. -/
import Derived.Test.YtbmdfmboabfceaaMr
import Derived.Test.YtbmdfmboabfceaaPfa
namespace Go.Proofs.Ytbmdfmboabfceaa
open Go.RowKit

def fit63 (n : Int) : Prop := -4611686018427387904 ≤ n ∧ n ≤ 4611686018427387904
theorem wf63 {n : Int} (h : fit63 n) : (Lit.int .i64 n).wf = true := by
  obtain ⟨h1, h2⟩ := h
  have e1 : IntKind.i64.min = -9223372036854775808 := by decide
  have e2 : IntKind.i64.max = 9223372036854775807 := by decide
  simp only [Lit.wf, e1, e2]
  simp
  omega
abbrev spV (s : Sp) : Value := .agg #[.int .i64 s.1.1, .int .i64 s.1.2, .int .i64 s.2.1, .int .i64 s.2.2]
abbrev thV (s : Int × Int) : Value := .agg #[.int .i64 s.1, .int .i64 s.2]
def spOk (s : Sp) : Prop := fit63 s.1.1 ∧ fit63 s.1.2 ∧ fit63 s.2.1 ∧ fit63 s.2.2
def thOk (s : Int × Int) : Prop := fit63 s.1 ∧ fit63 s.2
theorem sizeT : ∃ m, Try.prog.types.size = m + 3 := ⟨Try.prog.types.size - 3, by kernel_rfl⟩
theorem lawS : WideMaps.KeyLaw Try.prog 153 := deep_law_laid pfLaid (m := 6) (by omega) (of_decide_eq_true (by kernel_rfl)) (by kernel_rfl) (by kernel_rfl)
theorem lawT : WideMaps.KeyLaw Try.prog 90 := deep_law_laid pfLaid (m := 6) (by omega) (of_decide_eq_true (by kernel_rfl)) (by kernel_rfl) (by kernel_rfl)
theorem litI (D : Nat) {n : Int} (h : (Lit.int .i64 n).wf = true) : Try.prog.keyLits (D + 1) 3 [.int .i64 n] = some [.int .i64 n] := by
  simp [Program.keyLits, Try.underlying3, h]
theorem litT (D : Nat) {a b : Int} (ha : (Lit.int .i64 a).wf = true) (hb : (Lit.int .i64 b).wf = true) : Try.prog.keyLits (D + 2) 31 [.int .i64 a, .int .i64 b] = some [.int .i64 a, .int .i64 b] := by
  have c2 : Try.prog.cellsOf 31 = 2 := by kernel_rfl
  have c3 : Try.prog.cellsOf 3 = 1 := by kernel_rfl
  unfold Program.keyLits
  rw [Try.underlying31]
  simp only
  rw [if_pos ⟨c2.symm, by kernel_rfl⟩]
  simp [c3, litI _ ha, litI _ hb]
theorem keyS (s : Sp) (h : spOk s) : ∃ l, keyOf Try.prog 153 (spV s) = some l := by
  obtain ⟨h0, h1, h2, h3⟩ := h
  have w0 := wf63 h0
  have w1 := wf63 h1
  have w2 := wf63 h2
  have w3 := wf63 h3
  have hk : Try.prog.keyType 153 = true := by kernel_rfl
  have c1 : Try.prog.cellsOf 153 = 4 := by kernel_rfl
  have c2 : Try.prog.cellsOf 31 = 2 := by kernel_rfl
  have c3 : Try.prog.cellsOf 3 = 1 := by kernel_rfl
  obtain ⟨m, hm⟩ := sizeT
  unfold keyOf
  rw [Try.underlying153]
  simp only [hk, Bool.true_and]
  have hf : (spV s).formed Try.prog 153 = true := by
    simp [Value.formed, Try.underlying153, c1]
  rw [hf, if_pos rfl, hm]
  unfold Program.keyLits
  rw [Try.underlying153]
  simp only
  rw [if_pos ⟨by rw [c1]; simp [Value.cells], by kernel_rfl⟩]
  simp [c2, c3, Value.cells, litI _ w0, litI _ w1, litT _ w2 w3]
theorem keyT (s : Int × Int) (h : thOk s) : ∃ l, keyOf Try.prog 90 (thV s) = some l := by
  obtain ⟨h0, h1⟩ := h
  have w0 := wf63 h0
  have w1 := wf63 h1
  have hk : Try.prog.keyType 90 = true := by kernel_rfl
  have c1 : Try.prog.cellsOf 90 = 2 := by kernel_rfl
  have c3 : Try.prog.cellsOf 3 = 1 := by kernel_rfl
  obtain ⟨m, hm⟩ := sizeT
  unfold keyOf
  rw [Try.underlying90]
  simp only [hk, Bool.true_and]
  have hf : (thV s).formed Try.prog 90 = true := by
    simp [Value.formed, Try.underlying90, c1]
  rw [hf, if_pos rfl, hm]
  unfold Program.keyLits
  rw [Try.underlying90]
  simp only
  rw [if_pos ⟨by rw [c1]; simp [Value.cells], by kernel_rfl⟩]
  simp [c3, Value.cells, litI _ w0, litI _ w1]
theorem encS : KeyEnc 153 spV spOk := ⟨lawS, keyS, fun s s' h => by
  simp at h; exact Prod.ext (Prod.ext h.1 h.2.1) (Prod.ext h.2.2.1 h.2.2.2)⟩
theorem encT : KeyEnc 90 thV thOk := ⟨lawT, keyT, fun s s' h => by
  simp at h; exact Prod.ext h.1 h.2⟩
end Go.Proofs.Ytbmdfmboabfceaa
