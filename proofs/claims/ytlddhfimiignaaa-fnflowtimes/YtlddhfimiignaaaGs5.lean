/- BatchMove of the program: the contract. -/
import Derived.Test.YtlddhfimiignaaaGs4
import Derived.Test.YtlddhfimiignaaaGb2
import Derived.Test.YtlddhfimiignaaaGa8
/-! BatchMove of the program: the contract. -/
namespace Go.Proofs.Ytlddhfimiignaaa
open Go.RowKit

/-- A row moved by a front. -/
def mvR (f : List (Int × Int)) (r : Rw) : Rw := ((r.1.1, moveV f r.1.2.1 r.1.2.2), r.2)
def moveL (f : List (Int × Int)) (l : List Rw) : List Rw := l.map (mvR f)
def bmoveL (l : List Rw) (f : List (Int × Int)) : List Rw := if rokB l && fokB f then sumF (moveL f l) else []
theorem bmove_no1 {l : List Rw} {f : List (Int × Int)} (h : rokB l = false) : bmoveL l f = [] := by simp [bmoveL, h]
theorem bmove_no2 {l : List Rw} {f : List (Int × Int)} (h : fokB f = false) : bmoveL l f = [] := by simp [bmoveL, h]
theorem bmove_yes {l : List Rw} {f : List (Int × Int)} (h : rokB l = true) (h' : fokB f = true) : bmoveL l f = sumF (moveL f l) := by simp [bmoveL, h, h']
theorem bmove_len (l : List Rw) (f : List (Int × Int)) : (bmoveL l f).length ≤ 400 := by
  unfold bmoveL; split
  · exact sumF_len4 _
  · simp
theorem move_abs (f : List (Int × Int)) (l : List Rw) : absum (moveL f l) = absum l := by
  unfold moveL
  induction l with
  | nil => rfl
  | cons r l ih => simp only [List.map_cons, absum, ih]; rfl
theorem move_sp {l : List Rw} {f : List (Int × Int)} (h : rokB l = true) (hf : fokB f = true) : ∀ r ∈ moveL f l, spOk r.1 := fun r hr => by
  obtain ⟨q, hq, rfl⟩ := List.mem_map.1 hr
  have h1 := rw_sp (rok_at h hq)
  have h2 := rw_time (rok_at h hq)
  have h3 := move_ok hf h2 (m1 := (moveV f q.1.2.1 q.1.2.2).1) (m2 := (moveV f q.1.2.1 q.1.2.2).2) rfl
  rw [okB_iff] at h3
  obtain ⟨s1, s2, _, _⟩ := h1
  exact ⟨s1, s2, by unfold fit63; simp only [mvR]; omega, by unfold fit63; simp only [mvR]; omega⟩
theorem FillK.time {c : Array Value} {L : List Rw} {n i : Nat} {t : Int × Int} {A B d : Int} (h : FillK rowC 5 c L n) (hi : L[i]? = some ((t, (A, B)), d)) (hin : i < n) (hs : i * 5 + 4 < c.size) (A' B' : Int) :
    FillK rowC 5 ((c.setIfInBounds (i * 5 + 2) (.int .i64 A')).setIfInBounds (i * 5 + 3) (.int .i64 B')) (L.set i ((t, (A', B')), d)) n := by
  intro j x hj hx q hq
  have hil := (List.getElem?_eq_some_iff.1 hi).1
  rw [List.getElem?_set] at hx
  rw [Array.getElem?_setIfInBounds, Array.getElem?_setIfInBounds, Array.size_setIfInBounds]
  by_cases e : i = j
  · subst e
    rw [if_pos rfl, if_pos hil] at hx
    cases hx
    obtain rfl | rfl | hq4 : q = 2 ∨ q = 3 ∨ (q ≠ 2 ∧ q ≠ 3) := by omega
    · rw [if_neg (by omega), if_pos rfl, if_pos (by omega)]; rfl
    · rw [if_pos rfl, if_pos (by omega)]; rfl
    · rw [if_neg (by omega), if_neg (by omega), h i _ hin hi q hq]
      obtain rfl | rfl | rfl : q = 0 ∨ q = 1 ∨ q = 4 := by omega
      all_goals rfl
  · rw [if_neg e] at hx
    rw [if_neg (by omega), if_neg (by omega)]
    exact h j x hj hx q hq
end Go.Proofs.Ytlddhfimiignaaa

/-! BatchMove of the model: the contract. -/
namespace Go.Proofs.Ytlddhfimiignaaa
open Go.RowKit

theorem move_snoc {l : List Rw} {f : List (Int × Int)} {k : Nat} {r : Rw} (h : l[k]? = some r) : moveL f (l.take (k + 1)) = moveL f (l.take k) ++ [mvR f r] := by
  unfold moveL; rw [take_snoc h, List.map_append]; rfl
end Go.Proofs.Ytlddhfimiignaaa
