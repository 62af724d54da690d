import Derived.Test.YtdbhgocaelmanaaGreatGd3
import Derived.Test.YtdbhgocaelmanaaGreatGt1
import Derived.Test.YtdbhgocaelmanaaGreatGs7
import Derived.Test.YtdbhgocaelmanaaGreatGb1
namespace Go.Proofs.YtdbhgocaelmanaaGreat
open Go.RowKit
theorem FillK.count {c : Array Value} {L : List It} {n i : Nat} {s : Int × Int} {d : Int} (h : FillK itC 3 c L n) (hi : L[i]? = some (s, d)) (hin : i < n) (hs : i * 3 + 2 < c.size) (d' : Int) :
    FillK itC 3 (c.setIfInBounds (i * 3 + 2) (.int .i64 d')) (L.set i (s, d')) n := by
  intro j x hj hx q hq
  have hil := (List.getElem?_eq_some_iff.1 hi).1
  rw [List.getElem?_set] at hx
  rw [Array.getElem?_setIfInBounds]
  by_cases e : i = j
  · subst e
    rw [if_pos rfl, if_pos hil] at hx
    cases hx
    obtain rfl | hq2 : q = 2 ∨ q ≠ 2 := by omega
    · rw [if_pos rfl, if_pos (by omega)]; rfl
    · rw [if_neg (by omega), h i _ hin hi q hq]
      obtain rfl | rfl : q = 0 ∨ q = 1 := by omega
      all_goals rfl
  · rw [if_neg e] at hx
    rw [if_neg (by omega)]
    exact h j x hj hx q hq
end Go.Proofs.YtdbhgocaelmanaaGreat
