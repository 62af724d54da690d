/- The model's SpineAt in the form in which a law uses it. -/
import Derived.Test.YtnegpfkmghdipaaGx2
import Derived.Test.YtnegpfkmghdipaaZs4
namespace Go.Proofs.Ytnegpfkmghdipaa
open Go.RowKit Go.Shelf

section
variable {L : List (List Rw)} {F : List (Int × Int)} {r : Bool} {lv fv : Value} {w : World}
theorem specSpineAt_k {x y : Int} {l : List It} (e1 : satB L F x y = r) (e2 : satL L F x y = l) (h : Spn w lv fv L F) :
    Calls Try.prog 20 #[spv lv fv, tv x y] w fun e w' => ∃ o : Value, e = .returned (.tuple #[o, .bool r]) ∧ Is w' o l ∧ Below w.heap.size w w' := by
  refine (specSpineAt_any lv fv L F x y w h).mono ?_
  rintro e w1 ⟨o, rfl, h1, h2⟩
  refine ⟨o, by rw [e1], ?_, h2⟩
  rw [← e2]
  exact OwnI.is h1 (sat_few L F x y)
end
end Go.Proofs.Ytnegpfkmghdipaa
