/- SetEach of the program: the contract, a way. -/
import Derived.Test.YtlddhfimiignaaaGreatGt9
import Derived.Laws.EntriesVeiled
namespace Go.Proofs.YtlddhfimiignaaaGreat
open Go.RowKit
open Go.ChangeMaps (setBlock)

set_option maxHeartbeats 2000000 in
theorem wayOf_4 (w : World) : Calls Tryz.prog 71 #[.int .i64 4] w fun e w' => e = .returned (.tuple #[.func (.func 110) #[] #[], .bool true]) ∧ Below w.heap.size w w' := by
  go_enter Tryz.func71, Tryz.ntmps71
  go_wp2_with fail
  refine bodyPost_ret (by simp [results, Tryz.results71, go_sem]; try rfl) rfl ?_
  exact ⟨rfl, bAlloc (Below.refl _ _) _⟩
set_option maxHeartbeats 2000000 in
theorem wayOf_5 (w : World) : Calls Tryz.prog 71 #[.int .i64 5] w fun e w' => e = .returned (.tuple #[.func (.func 111) #[] #[], .bool true]) ∧ Below w.heap.size w w' := by
  go_enter Tryz.func71, Tryz.ntmps71
  go_wp2_with fail
  refine bodyPost_ret (by simp [results, Tryz.results71, go_sem]; try rfl) rfl ?_
  exact ⟨rfl, bAlloc (Below.refl _ _) _⟩
set_option maxHeartbeats 2000000 in
theorem wayOf_6 (w : World) : Calls Tryz.prog 71 #[.int .i64 6] w fun e w' => e = .returned (.tuple #[.func (.func 112) #[] #[], .bool true]) ∧ Below w.heap.size w w' := by
  go_enter Tryz.func71, Tryz.ntmps71
  go_wp2_with fail
  refine bodyPost_ret (by simp [results, Tryz.results71, go_sem]; try rfl) rfl ?_
  exact ⟨rfl, bAlloc (Below.refl _ _) _⟩
set_option maxHeartbeats 2000000 in
theorem wayOf_7 (w : World) : Calls Tryz.prog 71 #[.int .i64 7] w fun e w' => e = .returned (.tuple #[.func (.func 113) #[] #[], .bool true]) ∧ Below w.heap.size w w' := by
  go_enter Tryz.func71, Tryz.ntmps71
  go_wp2_with fail
  refine bodyPost_ret (by simp [results, Tryz.results71, go_sem]; try rfl) rfl ?_
  exact ⟨rfl, bAlloc (Below.refl _ _) _⟩
set_option maxHeartbeats 2000000 in
theorem wayOf_no (how : Int) (h : how < 1 ∨ 8 ≤ how) (w : World) : Calls Tryz.prog 71 #[.int .i64 how] w fun e w' => (∃ z, e = .returned (.tuple #[z, .bool false])) ∧ Below w.heap.size w w' := by
  by_cases h1 : how < 1
  · go_enter Tryz.func71, Tryz.ntmps71
    go_wp2_with fail
    refine bodyPost_ret (by simp [results, Tryz.results71, go_sem]; try rfl) rfl ?_
    exact ⟨⟨_, rfl⟩, bAlloc (Below.refl _ _) _⟩
  · have h2 : 8 ≤ how := by omega
    go_enter Tryz.func71, Tryz.ntmps71
    go_wp2_with fail
    refine bodyPost_ret (by simp [results, Tryz.results71, go_sem]; try rfl) rfl ?_
    exact ⟨⟨_, rfl⟩, bAlloc (Below.refl _ _) _⟩
end Go.Proofs.YtlddhfimiignaaaGreat
