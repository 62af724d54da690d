import Derived.Test.YtldejkhemkjcgaaGreatDoorGtX
import Derived.Test.YtldejkhemkjcgaaGreatDoorGa8
import Derived.Test.YtldejkhemkjcgaaGreatDoorGd3
namespace Go.Proofs.YtldejkhemkjcgaaGreatDoor
end Go.Proofs.YtldejkhemkjcgaaGreatDoor
namespace Go.Proofs.YtldejkhemkjcgaaGreatDoor
def partK (kind : Int) (s : List It) (k : Int) : List It := if kind = 1 then countK s k else if kind = 2 then (onceT s).filter fun r => decide (r.1.1 = k) else leastK s k
def sumK (kind : Int) (s : List It) : List It := if kind = 1 then countS s else if kind = 2 then onceS s else leastS s
theorem sumK_parts (kind : Int) {s : List It} (h : sokB s = true) : sumK kind s = partK kind s 0 ++ partK kind s 1 ++ partK kind s 2 ++ partK kind s 3 := by
  unfold sumK partK
  by_cases h1 : kind = 1
  · simp only [h1, if_true]; exact countS_yes h
  · by_cases h2 : kind = 2
    · subst h2
      simp only [if_true]
      rw [if_neg (by omega), if_neg (by omega), if_neg (by omega), if_neg (by omega), if_neg (by omega), onceS_yes h]
      exact (split_keys (once_srt (sok_srt h)) (once_keys h)).symm
    · simp only [if_neg h1, if_neg h2]; exact leastS_yes h
theorem partK_mem {kind : Int} {s : List It} {k : Int} {r : It} (h : r ∈ partK kind s k) : r.1.1 = k ∧ r.2 = 1 := by
  unfold partK at h
  split at h
  · rw [(countK_mem h).1]; exact ⟨rfl, rfl⟩
  · split at h
    · obtain ⟨h1, h2⟩ := List.mem_filter.1 h
      exact ⟨by simpa using h2, (once_mem.1 h1).1⟩
    · unfold leastK at h
      obtain ⟨h1, h2⟩ := List.mem_filter.1 (List.mem_of_mem_take h)
      exact ⟨by simpa using h2, (once_mem.1 h1).1⟩
theorem sumK_sok (kind : Int) {s : List It} (h : sokB s = true) : sokB (sumK kind s) = true := by
  unfold sumK
  split
  · refine sok_of (by have := countS_len s; omega) (fun r hr => ?_) (up_srt (countS_up s))
    obtain ⟨h1, _, h3, h4, h5⟩ := countS_mem hr
    exact it_mk ⟨h4, h5, by omega, by omega, by omega, by omega, by omega⟩
  · split
    · rw [onceS_yes h]; exact once_sok h
    · exact leastS_sok h
theorem sumK_ones {kind : Int} {s : List It} {r : It} (h : sokB s = true) (hr : r ∈ sumK kind s) : r.2 = 1 := by
  rw [sumK_parts kind h] at hr
  simp only [List.mem_append] at hr
  rcases hr with ((hr | hr) | hr) | hr <;> exact (partK_mem hr).2
def gridRow (a m : Nat) : List (Int × Int) := (List.range m).map fun b => ((a : Int), ((b : Nat) : Int))
def gridTo (n : Nat) : List (Int × Int) := (List.range n).flatMap fun a => gridRow a 8
def grid : List (Int × Int) := gridTo 8
theorem grid_mem {t : Int × Int} : t ∈ grid ↔ okB t.1 t.2 = true := by
  rw [okB_iff]
  unfold grid gridTo gridRow
  simp only [List.mem_flatMap, List.mem_map, List.mem_range]
  constructor
  · rintro ⟨a, ha, b, hb, rfl⟩; simp only; omega
  · rintro ⟨h1, h2, h3, h4⟩
    exact ⟨t.1.toNat, by omega, t.2.toNat, by omega, Prod.ext (by simp only; omega) (by simp only; omega)⟩
theorem grid_srt : grid.Pairwise fun p q => ltT p q = true := by decide
theorem grid_len : grid.length = 64 := by decide
section
variable {E : Int → Int → Int} (h0 : ∀ x y, okB x y = false → E x y = 0) {X Y : Int} (hX : okB X Y = true)
include h0 hX
end
def inJ (l : List Rw) (t : Int × Int) : Bool := l.any fun p => l.any fun q => decide ((max p.1.2.1 q.1.2.1, max p.1.2.2 q.1.2.2) = t)
def jtimes (l : List Rw) : List (Int × Int) := grid.filter (inJ l)
theorem inJ_iff {l : List Rw} {t : Int × Int} : inJ l t = true ↔ ∃ p ∈ l, ∃ q ∈ l, max p.1.2.1 q.1.2.1 = t.1 ∧ max p.1.2.2 q.1.2.2 = t.2 := by
  unfold inJ
  simp only [List.any_eq_true, decide_eq_true_eq, Prod.ext_iff]
theorem jtimes_mem {l : List Rw} {t : Int × Int} : t ∈ jtimes l ↔ okB t.1 t.2 = true ∧ inJ l t = true := by
  unfold jtimes; rw [List.mem_filter, grid_mem]
theorem jtimes_srt (l : List Rw) : (jtimes l).Pairwise fun p q => ltT p q = true := grid_srt.filter _
theorem jtimes_len (l : List Rw) : (jtimes l).length ≤ 64 := by
  have := List.length_filter_le (inJ l) grid
  rw [grid_len] at this; exact this
end Go.Proofs.YtldejkhemkjcgaaGreatDoor
namespace Go.Proofs.YtldejkhemkjcgaaGreatDoor
end Go.Proofs.YtldejkhemkjcgaaGreatDoor
