import Derived.Test.YtbdpcngcbnoioaaGreatDoorGtX
import Derived.Test.YtbdpcngcbnoioaaGreatDoorGs7
import Derived.Deep.RegionHeld3
namespace Go.Proofs.YtbdpcngcbnoioaaGreatDoor
open Go.RowKit
end Go.Proofs.YtbdpcngcbnoioaaGreatDoor
namespace Go.Proofs.YtbdpcngcbnoioaaGreatDoor
open Go.RowKit
end Go.Proofs.YtbdpcngcbnoioaaGreatDoor
namespace Go.Proofs.YtbdpcngcbnoioaaGreatDoor
open Go.RowKit
set_option maxRecDepth 100000 in
theorem pairVal_any {a b : Int} (ha : 0 ≤ a) (ha' : a ≤ 99) (hb : 0 ≤ b) (hb' : b ≤ 99) (w : World) :
    Calls Tryz.prog 223 #[.int .i64 a, .int .i64 b] w fun e w' => e = .returned (.int .i64 (pv a b)) ∧ Below w.heap.size w w' := by
  have i1 : IntKind.i64.wrap (10 * a) = 10 * a := by rw [IntKind.wrap_i64] <;> omega
  have i2 : IntKind.i64.wrap (10 * a + b) = 10 * a + b := by rw [IntKind.wrap_i64] <;> omega
  go_enter Tryz.func223, Tryz.ntmps223
  go_wp2_with fail
  refine (valOf_any (10 * a + b) _).mono ?_
  rintro e w1 ⟨rfl, hb1⟩
  go_wp2_with fail
  go_ret
  exact ⟨rfl, hb1⟩
end Go.Proofs.YtbdpcngcbnoioaaGreatDoor
