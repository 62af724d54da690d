/- The value of a pair: the contract. -/
import Derived.Test.YtlddhfimiignaaaGt4
import Derived.Test.YtlddhfimiignaaaGj1
namespace Go.Proofs.Ytlddhfimiignaaa
open Go.RowKit

set_option maxRecDepth 100000 in
theorem pairVal_any {a b : Int} (ha : 0 ≤ a) (ha' : a ≤ 99) (hb : 0 ≤ b) (hb' : b ≤ 99) (w : World) :
    Calls Try.prog 76 #[.int .i64 a, .int .i64 b] w fun e w' => e = .returned (.int .i64 (pv a b)) ∧ Below w.heap.size w w' := by
  have i1 : IntKind.i64.wrap (10 * a) = 10 * a := by rw [IntKind.wrap_i64] <;> omega
  have i2 : IntKind.i64.wrap (10 * a + b) = 10 * a + b := by rw [IntKind.wrap_i64] <;> omega
  go_enter Try.func76, Try.ntmps76
  go_wp2_with fail
  refine (valOf_any (10 * a + b) _).mono ?_
  rintro e w1 ⟨rfl, hb1⟩
  go_wp2_with fail
  go_ret
  exact ⟨rfl, hb1⟩
end Go.Proofs.Ytlddhfimiignaaa
