/- SetCount of the program: the contract. -/
import Derived.Test.YtlddhfimiignaaaGt4
namespace Go.Proofs.Ytlddhfimiignaaa
open Go.RowKit

theorem Bk.quad {w : World} {k : Nat} {x0 x1 x2 x3 : Value} {t : TypeId} (h : Bk w k #[x0, x1, x2, x3] t) :
    w.cell? ⟨k, 0, none⟩ = some x0 ∧ w.cell? ⟨k, 1, none⟩ = some x1 ∧ w.cell? ⟨k, 2, none⟩ = some x2 ∧ w.cell? ⟨k, 3, none⟩ = some x3 := by
  unfold Bk at h; simp [World.cell?, h]
end Go.Proofs.Ytlddhfimiignaaa
