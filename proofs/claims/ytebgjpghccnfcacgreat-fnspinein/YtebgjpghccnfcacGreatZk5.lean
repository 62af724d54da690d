/- SpineSince of the program: the contract. -/
import Derived.Test.YtebgjpghccnfcacGreatZq0
namespace Go.Proofs.YtebgjpghccnfcacGreat
open Go.RowKit Go.Shelf

theorem allMay_eq {F T : List (Int × Int)} {r : Bool} (e : askedT F T = r) {v u : Value} {w : World} (h : Ts w v F) (h' : Ts w u T) :
    Calls Tryz.prog 40 #[v, u] w fun e w' => e = .returned (.bool r) ∧ Below w.heap.size w w' := by
  rw [← e]; exact allMay_any v u F T w h h'
end Go.Proofs.YtebgjpghccnfcacGreat
