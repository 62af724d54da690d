/- What the small functions on times answer, call by call: contracts that the laws of this seat are proved from. -/
import Derived.Test.YtbmdfmboabfceaaBase
import Derived.Deep.QuietTactic
import Derived.BigQuiet
namespace Go.Proofs.Ytbmdfmboabfceaa
open Go.RowKit

/-- A time as a value. -/
abbrev tv (a b : Int) : Value := .agg #[.int .i64 a, .int .i64 b]
def inB (n lo hi : Int) : Bool := decide (lo ≤ n ∧ n ≤ hi)
def okB (a b : Int) : Bool := decide (0 ≤ a ∧ a ≤ 7 ∧ 0 ≤ b ∧ b ≤ 7)
theorem okB_eq (a b : Int) : okB a b = (inB a 0 7 && inB b 0 7) := by unfold okB inB; rw [Bool.eq_iff_iff]; simp; omega

set_option maxHeartbeats 400000 in
theorem l6In_any (n lo hi : Int) (w : World) :
    Calls Try.prog 131 #[.int .i64 n, .int .i64 lo, .int .i64 hi] w fun e w' => e = .returned (.bool (inB n lo hi)) ∧ w' = w := by
  by_cases h1 : lo ≤ n
  · by_cases h2 : n ≤ hi
    · have e : Hid (inB n lo hi = true) := by simp [Hid, inB, h1, h2]
      go_enter Try.func131, Try.ntmps131
      go_wp2
      go_ret
      exact ⟨ret_bool e.out.symm, rfl⟩
    · have e : Hid (inB n lo hi = false) := by simp [Hid, inB, h2]
      go_enter Try.func131, Try.ntmps131
      go_wp2
      go_ret
      exact ⟨ret_bool e.out.symm, rfl⟩
  · have e : Hid (inB n lo hi = false) := by simp [Hid, inB, h1]
    go_enter Try.func131, Try.ntmps131
    go_wp2
    go_ret
    exact ⟨ret_bool e.out.symm, rfl⟩

set_option maxHeartbeats 400000 in
theorem numbersOf_any (a b : Int) (w : World) :
    Calls Try.prog 132 #[tv a b] w fun e w' => e = .returned (tv a b) ∧ w' = (w.alloc (.cells #[.int .i64 a, .int .i64 b] 31)).alloc (.cells #[.int .i64 a, .int .i64 b] 103) := by
  go_enter Try.func132, Try.ntmps132
  go_wp2
  go_returns
  exact ⟨rfl, rfl⟩

set_option maxHeartbeats 400000 in
theorem timeOf_any (a b : Int) (w : World) :
    Calls Try.prog 133 #[tv a b] w fun e w' => e = .returned (tv a b) ∧ Below w.heap.size w w' := by
  go_enter Try.func133, Try.ntmps133
  go_wp2
  go_returns
  refine ⟨rfl, ?_⟩
  go_grown

set_option maxHeartbeats 400000 in
theorem specOk_any (a b : Int) (w : World) :
    Calls Try.prog 67 #[tv a b] w fun e w' => e = .returned (.bool (okB a b)) ∧ Below w.heap.size w w' := by
  rw [okB_eq]
  go_enter Try.func67, Try.ntmps67
  cases ha : inB a 0 7
  · go_wp2_with (go_at_call 131; refine (l6In_any _ _ _ _).mono ?_; rintro e w' ⟨rfl, rfl⟩)
    go_ret
    refine ⟨rfl, ?_⟩
    go_grown
  · go_wp2_with (go_at_call 131; refine (l6In_any _ _ _ _).mono ?_; rintro e w' ⟨rfl, rfl⟩)
    go_ret
    refine ⟨rfl, ?_⟩
    go_grown

theorem index40 (a b : Int) : (∀ w : World, (Instr.index 103 (.agg #[.int .i64 a, .int .i64 b]) (.int .i64 0)).run Try.prog w = .ok (.int .i64 a) w) ∧ (∀ w : World, (Instr.index 103 (.agg #[.int .i64 a, .int .i64 b]) (.int .i64 1)).run Try.prog w = .ok (.int .i64 b) w) :=
  ⟨fun _ => by kernel_rfl, fun _ => by kernel_rfl⟩

set_option maxHeartbeats 1000000 in
theorem implOk_any (a b : Int) (w : World) :
    Calls Try.prog 112 #[tv a b] w fun e w' => e = .returned (.bool (okB a b)) ∧ Below w.heap.size w w' := by
  obtain ⟨i0, i1⟩ := index40 a b
  have H : Hid (okB a b = decide (0 ≤ a ∧ a ≤ 7 ∧ 0 ≤ b ∧ b ≤ 7)) := rfl
  by_cases h1 : 0 ≤ a
  · by_cases h2 : a ≤ 7
    · by_cases h3 : 0 ≤ b
      · by_cases h4 : b ≤ 7
        all_goals
          go_enter Try.func112, Try.ntmps112
          go_wp2
          go_rounds 3
          go_returns
          refine ⟨ret_bool (by rw [H.out]; simp; omega), ?_⟩
          go_grown
      · go_enter Try.func112, Try.ntmps112
        go_wp2
        go_rounds 3
        go_returns
        refine ⟨ret_bool (by rw [H.out]; simp; omega), ?_⟩
        go_grown
    · go_enter Try.func112, Try.ntmps112
      go_wp2
      go_rounds 3
      go_returns
      refine ⟨ret_bool (by rw [H.out]; simp; omega), ?_⟩
      go_grown
  · go_enter Try.func112, Try.ntmps112
    go_wp2
    go_rounds 3
    go_returns
    refine ⟨ret_bool (by rw [H.out]; simp; omega), ?_⟩
    go_grown
end Go.Proofs.Ytbmdfmboabfceaa
