/- What the drawing of items answers: contracts. -/
import Derived.Test.YtjkojbafifbdgaaGd3
import Derived.Test.YtjkojbafifbdgaaGtX
import Derived.Test.YtjkojbafifbdgaaGs7
import Derived.Test.YtjkojbafifbdgaaGb1
namespace Go.Proofs.Ytjkojbafifbdgaa
open Go.RowKit

/-- Items as they are drawn: few, of few. -/
def drS (l : List It) : Prop := l.length ≤ 9 ∧ absum l ≤ 25
theorem abs_set (l : List It) (j : Nat) (s : Int × Int) : absum (l.set j (s, 0)) ≤ absum l := by
  induction l generalizing j with
  | nil => simp
  | cons r l ih =>
    cases j with
    | zero => simp only [List.set_cons_zero, absum]; omega
    | succ j => have := ih j; simp only [List.set_cons_succ, absum]; omega
theorem items_dr {l : List Rw} (hl : l.length ≤ 8) (hs : ∀ r ∈ l, smR r) (x y : Int) : (itemsL l x y).length ≤ 8 ∧ absum (itemsL l x y) ≤ 24 := by
  have h1 := absum_le (l := l) (c := 3) fun r hr => (hs r hr).2
  have h2 : absum l ≤ 24 := by omega
  unfold itemsL
  split
  · exact ⟨Nat.le_trans (sumL_len _ _) (Nat.le_trans (atL_len l x y) hl), Int.le_trans (sum_absI _) (Int.le_trans atL_abs h2)⟩
  · exact ⟨by simp, by simp [absum]⟩
theorem FillK.count {c : Array Value} {L : List It} {n i : Nat} {s : Int × Int} {d : Int} (h : FillK itC 3 c L n) (hi : L[i]? = some (s, d)) (hin : i < n) (hs : i * 3 + 2 < c.size) (d' : Int) :
    FillK itC 3 (c.setIfInBounds (i * 3 + 2) (.int .i64 d')) (L.set i (s, d')) n := by
  intro j x hj hx q hq
  have hil := (List.getElem?_eq_some_iff.1 hi).1
  rw [List.getElem?_set] at hx
  rw [Array.getElem?_setIfInBounds]
  by_cases e : i = j
  · subst e
    rw [if_pos rfl, if_pos hil] at hx
    cases hx
    obtain rfl | hq2 : q = 2 ∨ q ≠ 2 := by omega
    · rw [if_pos rfl, if_pos (by omega)]; rfl
    · rw [if_neg (by omega), h i _ hin hi q hq]
      obtain rfl | rfl : q = 0 ∨ q = 1 := by omega
      all_goals rfl
  · rw [if_neg e] at hx
    rw [if_neg (by omega)]
    exact h j x hj hx q hq
end Go.Proofs.Ytjkojbafifbdgaa
