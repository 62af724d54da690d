/- How a text is cut into words, by the library: the contract. -/
import Derived.Test.YtfofchgcbdbikaaDoorLp4
import Derived.Test.YtfofchgcbdbikaaDoorSpl
import Derived.Shelf.Strings.Split
namespace Go.Proofs.YtfofchgcbdbikaaDoor
open Go.RowKit Go.Shelf

theorem ix_cons {c x : UInt8} {xs : By} (h : x ≠ c) : Lib.index (x :: xs) [c] = if Lib.index xs [c] = -1 then -1 else Lib.index xs [c] + 1 := by
  rw [Lib.index_one, Lib.index_one]
  simp [Lib.indexByte, h]
theorem ix_has {c : UInt8} : ∀ {xs : By}, 0 < xs.count c → ∃ i : Nat, Lib.index xs [c] = i
  | [], h => by simp at h
  | x :: xs, h => by
    by_cases e : x = c
    · subst e; exact ⟨0, by rw [Lib.index_one]; simp [Lib.indexByte]⟩
    · rw [List.count_cons_of_ne e] at h
      obtain ⟨i, hi⟩ := ix_has h
      exact ⟨i + 1, by rw [ix_cons e, hi, if_neg (by omega)]; rfl⟩
theorem splitK_eq (c : UInt8) : ∀ s : By, Lib.splitK [c] 0 (s.count c) s = splitB c s
  | [] => rfl
  | x :: xs => by
    have ih := splitK_eq c xs
    by_cases e : x = c
    · subst e
      have h0 : Lib.index (x :: xs) [x] = 0 := by rw [Lib.index_one]; simp [Lib.indexByte]
      rw [List.count_cons_self, Lib.splitK, h0]
      simp [splitB, ih]
    · rw [List.count_cons_of_ne e]
      simp only [splitB, if_neg e]
      rcases hk : xs.count c with _ | k
      · rw [hk] at ih
        rw [← ih]
        rfl
      · obtain ⟨i, hi⟩ := ix_has (c := c) (xs := xs) (by omega)
        have h1 : Lib.index (x :: xs) [c] = ((i + 1 : Nat) : Int) := by rw [ix_cons e, hi, if_neg (by omega)]; rfl
        rw [hk, Lib.splitK, hi] at ih
        have n1 : (((i : Nat) : Int) == -1) = false := by simp
        have n2 : ((((i + 1 : Nat)) : Int) == -1) = false := by simp; omega
        rw [n1] at ih
        rw [← ih, Lib.splitK, h1, n2]
        simp
theorem split_lib (c : UInt8) (s : By) : Lib.splitB (baS [c]) 0 (Lib.countB (baS s) (baS [c])) (baS s) = (splitB c s).map baS := by
  have h := Lib.splitB_data (baS [c]) 0 (Lib.countB (baS s) (baS [c])) (baS s)
  have e1 : (baS s).data.toList = s := by simp
  have e2 : (baS [c]).data.toList = [c] := rfl
  have e3 : Lib.countB (baS s) (baS [c]) = s.count c := by
    show Lib.count (baS s).data.toList (baS [c]).data.toList = _
    rw [e1, e2, Lib.count_one]
  rw [e1, e2, e3, splitK_eq] at h
  rw [e3, ← h, List.map_map]
  have : (baS ∘ fun x : ByteArray => x.data.toList) = id := by funext x; simp [baS]
  rw [this, List.map_id]
theorem split_len (c : UInt8) (s : By) : (splitB c s).length = s.count c + 1 := by
  induction s with
  | nil => rfl
  | cons x xs ih =>
    simp only [splitB]
    split
    · rename_i h; subst h; simp [ih]
    · rename_i h
      rw [List.count_cons_of_ne h]
      rcases e : splitB c xs with _ | ⟨v, vs⟩
      · exact absurd e (split_ne c xs)
      · rw [e] at ih; simpa using ih
theorem split_any (c : UInt8) (s : By) (m : Int) (w : World) (hs : s.length ≤ 100000) (hm : w.cell? ⟨1, 0, none⟩ = some (.int .i64 m)) :
    Calls Tryd.prog 28 #[.string (baS s), .string (baS [c])] w fun e w' => ∃ v, e = .returned v ∧ Wss w' v (splitB c s) ∧ Below w.heap.size w w' := by
  refine (Any.strings_Split spU (by kernel_rfl) (baS s) (baS [c]) m w (by rw [baS_size]; omega) hm (by rw [baS_size]; simp)).mono ?_
  rintro e w' ⟨rfl, rfl⟩
  have e3 : Lib.countB (baS s) (baS [c]) + 1 = (splitB c s).length := by
    rw [split_len]
    show Lib.count (baS s).data.toList [c] + 1 = _
    rw [Lib.count_one]
  have hl := split_len c s
  have hc := List.count_le_length (a := c) (l := s)
  refine ⟨_, rfl, ⟨some ⟨w.heap.size, 0, none⟩, (splitB c s).length, by rw [e3], Nat.le_refl _, by unfold maxLen; omega, .inr ⟨w.heap.size, 0, rfl, fun i x hx => ?_⟩⟩, bAlloc (Below.refl _ _) _⟩
  rw [split_lib]
  refine (Bk.new (w := w) _ 9 rfl).at ?_
  simp [hx]
end Go.Proofs.YtfofchgcbdbikaaDoor
