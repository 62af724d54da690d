/- Contracts on fronts in the form in which the laws use them. -/
import Derived.Test.YtpmkhempkblokaaFr22
import Derived.Test.YtpmkhempkblokaaFr23
namespace Go.Proofs.Ytpmkhempkblokaa
open Go.RowKit
theorem self_true (l : List (Int × Int)) : decide (l = l) = true := by simp
theorem specBoth_k {f g L : List (Int × Int)} (e : bothL f g = L) {v v' : Value} {w : World} (h : Ts w v f) (h' : Ts w v' g) :
    Calls Try.prog 34 #[v, v'] w fun e w' => ∃ o : Value, e = .returned o ∧ Ts w' o L ∧ Below w.heap.size w w' := by
  refine (specBoth_any v v' f g w h h').mono ?_
  rintro e w' ⟨o, rfl, h1, h2⟩
  subst e
  exact ⟨o, rfl, h1.ts (by have := both_len f g; omega), h2⟩
theorem implBoth_k {f g L : List (Int × Int)} (e : bothL f g = L) {v v' : Value} {w : World} (h : Ts w v f) (h' : Ts w v' g) :
    Calls Try.prog 33 #[v, v'] w fun e w' => ∃ o : Value, e = .returned o ∧ Ts w' o L ∧ Below w.heap.size w w' := by
  refine (implBoth_any v v' f g w h h').mono ?_
  rintro e w' ⟨o, rfl, h1, h2⟩
  subst e
  exact ⟨o, rfl, h1.ts (by have := both_len f g; omega), h2⟩
end Go.Proofs.Ytpmkhempkblokaa
