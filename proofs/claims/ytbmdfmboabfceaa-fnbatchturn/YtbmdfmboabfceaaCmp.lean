/- What cmp.Compare and cmp.Or answer of numbers: contracts. -/
import Derived.Test.YtbmdfmboabfceaaBase2
namespace Go.Proofs.Ytbmdfmboabfceaa
open Go.RowKit

/-- What cmp.Compare answers. -/
def cmpZ (a b : Int) : Int := if a < b then -1 else if a > b then 1 else 0
theorem cmpZ_neg (a b : Int) : (cmpZ a b < 0) = (a < b) := by unfold cmpZ; split <;> (try split) <;> simp <;> omega
set_option maxHeartbeats 2000000 in
theorem isNaN_any (a : Int) (w : World) : Calls Try.prog 172 #[.int .i64 a] w fun e w' => e = .returned (.bool false) ∧ w' = w := by
  go_enter Try.func172, Try.ntmps172
  go_wp2
  go_ret
  exact ⟨ret_bool (by simp), rfl⟩
set_option maxHeartbeats 2000000 in
theorem compare_any (a b : Int) (w : World) : Calls Try.prog 127 #[.int .i64 a, .int .i64 b] w fun e w' => e = .returned (.int .i64 (cmpZ a b)) ∧ w' = w := by
  by_cases h1 : a < b
  · have e : cmpZ a b = -1 := by simp [cmpZ, h1]
    go_enter Try.func127, Try.ntmps127
    go_wp2_with (go_at_call 172; refine (isNaN_any _ _).mono ?_; rintro e w' ⟨rfl, rfl⟩)
    go_ret
    exact ⟨by rw [e]; rfl, rfl⟩
  by_cases h2 : a > b
  · have e : cmpZ a b = 1 := by simp [cmpZ, h1, h2]
    go_enter Try.func127, Try.ntmps127
    go_wp2_with (go_at_call 172; refine (isNaN_any _ _).mono ?_; rintro e w' ⟨rfl, rfl⟩)
    go_ret
    exact ⟨by rw [e]; rfl, rfl⟩
  · have e : cmpZ a b = 0 := by simp [cmpZ, h1, h2]
    go_enter Try.func127, Try.ntmps127
    go_wp2_with (go_at_call 172; refine (isNaN_any _ _).mono ?_; rintro e w' ⟨rfl, rfl⟩)
    go_ret
    exact ⟨by rw [e]; rfl, rfl⟩

theorem retI {k : IntKind} {a b : Int} (h : a = b) : Ending.returned (.int k a) = .returned (.int k b) := by rw [h]
/-- The first of two that is not 0. -/
def orZ (x y : Int) : Int := if x = 0 then y else x
set_option maxHeartbeats 2000000 in
theorem or2_any (g : Nat) (x y : Int) (w : World) (c0 : w.cell? ⟨g, 0, none⟩ = some (.int .i64 x)) (c1 : w.cell? ⟨g, 1, none⟩ = some (.int .i64 y)) :
    Calls Try.prog 156 #[.slice (some ⟨g, 0, none⟩) 2 2] w fun e w' => e = .returned (.int .i64 (orZ x y)) ∧ w' = w := by
  have H : Hid (orZ x y = if x = 0 then y else x) := rfl
  by_cases h0 : x = 0
  · subst h0
    by_cases h1 : y = 0
    · subst h1
      go_enter Try.func156, Try.ntmps156
      go_wp2_with fail
      go_rounds 3
      go_returns
      exact ⟨rfl, rfl⟩
    · have n1 : (y == 0) = false := by simpa using h1
      go_enter Try.func156, Try.ntmps156
      go_wp2_with fail
      go_rounds 3
      go_returns
      exact ⟨rfl, rfl⟩
  · have n0 : (x == 0) = false := by simpa using h0
    go_enter Try.func156, Try.ntmps156
    go_wp2_with fail
    go_rounds 3
    go_returns
    exact ⟨retI (by rw [H.out, if_neg h0]), rfl⟩
set_option maxHeartbeats 2000000 in
theorem or3_any (g : Nat) (x y z : Int) (w : World) (c0 : w.cell? ⟨g, 0, none⟩ = some (.int .i64 x)) (c1 : w.cell? ⟨g, 1, none⟩ = some (.int .i64 y)) (c2 : w.cell? ⟨g, 2, none⟩ = some (.int .i64 z)) :
    Calls Try.prog 156 #[.slice (some ⟨g, 0, none⟩) 3 3] w fun e w' => e = .returned (.int .i64 (orZ x (orZ y z))) ∧ w' = w := by
  have H : Hid (orZ x (orZ y z) = if x = 0 then (if y = 0 then z else y) else x) := rfl
  by_cases h0 : x = 0
  · subst h0
    by_cases h1 : y = 0
    · subst h1
      by_cases h2 : z = 0
      · subst h2
        go_enter Try.func156, Try.ntmps156
        go_wp2_with fail
        go_rounds 4
        go_returns
        exact ⟨rfl, rfl⟩
      · have n2 : (z == 0) = false := by simpa using h2
        go_enter Try.func156, Try.ntmps156
        go_wp2_with fail
        go_rounds 4
        go_returns
        exact ⟨rfl, rfl⟩
    · have n1 : (y == 0) = false := by simpa using h1
      go_enter Try.func156, Try.ntmps156
      go_wp2_with fail
      go_rounds 4
      go_returns
      exact ⟨retI (by rw [H.out]; simp [h1]), rfl⟩
  · have n0 : (x == 0) = false := by simpa using h0
    go_enter Try.func156, Try.ntmps156
    go_wp2_with fail
    go_rounds 4
    go_returns
    exact ⟨retI (by rw [H.out, if_neg h0]), rfl⟩
end Go.Proofs.Ytbmdfmboabfceaa
