/- What the small functions on times answer, call by call: contracts that the laws of this seat are proved from. -/
import Derived.Test.YtlddhfimiignaaaGa1
import Derived.Deep.QuietTactic
import Derived.BigQuiet
import Derived.Deep.DeepCutAuto
import Derived.Deep.DrawnRows
import Derived.Deep.RegionHeld3
/-! What the small functions on times answer, call by call: contracts that the laws of this seat are proved from. -/
namespace Go.Proofs.Ytlddhfimiignaaa
open Go.RowKit

/-- A time as a value. -/
abbrev tv (a b : Int) : Value := .agg #[.int .i64 a, .int .i64 b]
def inB (n lo hi : Int) : Bool := decide (lo ≤ n ∧ n ≤ hi)
def okB (a b : Int) : Bool := decide (0 ≤ a ∧ a ≤ 7 ∧ 0 ≤ b ∧ b ≤ 7)
theorem okB_eq (a b : Int) : okB a b = (inB a 0 7 && inB b 0 7) := by unfold okB inB; rw [Bool.eq_iff_iff]; simp; omega

set_option maxHeartbeats 400000 in
theorem l6In_any (n lo hi : Int) (w : World) :
    Calls Try.prog 59 #[.int .i64 n, .int .i64 lo, .int .i64 hi] w fun e w' => e = .returned (.bool (inB n lo hi)) ∧ w' = w := by
  by_cases h1 : lo ≤ n
  · by_cases h2 : n ≤ hi
    · have e : Hid (inB n lo hi = true) := by simp [Hid, inB, h1, h2]
      go_enter Try.func59, Try.ntmps59
      go_wp2
      go_ret
      exact ⟨ret_bool e.out.symm, rfl⟩
    · have e : Hid (inB n lo hi = false) := by simp [Hid, inB, h2]
      go_enter Try.func59, Try.ntmps59
      go_wp2
      go_ret
      exact ⟨ret_bool e.out.symm, rfl⟩
  · have e : Hid (inB n lo hi = false) := by simp [Hid, inB, h1]
    go_enter Try.func59, Try.ntmps59
    go_wp2
    go_ret
    exact ⟨ret_bool e.out.symm, rfl⟩

set_option maxHeartbeats 400000 in
theorem numbersOf_any (a b : Int) (w : World) :
    Calls Try.prog 83 #[tv a b] w fun e w' => e = .returned (tv a b) ∧ w' = (w.alloc (.cells #[.int .i64 a, .int .i64 b] 45)).alloc (.cells #[.int .i64 a, .int .i64 b] 105) := by
  go_enter Try.func83, Try.ntmps83
  go_wp2
  go_returns
  exact ⟨rfl, rfl⟩

set_option maxHeartbeats 400000 in
theorem timeOf_any (a b : Int) (w : World) :
    Calls Try.prog 84 #[tv a b] w fun e w' => e = .returned (tv a b) ∧ Below w.heap.size w w' := by
  go_enter Try.func84, Try.ntmps84
  go_wp2
  go_returns
  refine ⟨rfl, ?_⟩
  go_grown

set_option maxHeartbeats 400000 in
theorem specOk_any (a b : Int) (w : World) :
    Calls Try.prog 113 #[tv a b] w fun e w' => e = .returned (.bool (okB a b)) ∧ Below w.heap.size w w' := by
  rw [okB_eq]
  go_enter Try.func113, Try.ntmps113
  cases ha : inB a 0 7
  · go_wp2_with (go_at_call 59; refine (l6In_any _ _ _ _).mono ?_; rintro e w' ⟨rfl, rfl⟩)
    go_ret
    refine ⟨rfl, ?_⟩
    go_grown
  · go_wp2_with (go_at_call 59; refine (l6In_any _ _ _ _).mono ?_; rintro e w' ⟨rfl, rfl⟩)
    go_ret
    refine ⟨rfl, ?_⟩
    go_grown

theorem index40 (a b : Int) : (∀ w : World, (Instr.index 105 (.agg #[.int .i64 a, .int .i64 b]) (.int .i64 0)).run Try.prog w = .ok (.int .i64 a) w) ∧ (∀ w : World, (Instr.index 105 (.agg #[.int .i64 a, .int .i64 b]) (.int .i64 1)).run Try.prog w = .ok (.int .i64 b) w) :=
  ⟨fun _ => by kernel_rfl, fun _ => by kernel_rfl⟩

set_option maxHeartbeats 1000000 in
theorem implOk_any (a b : Int) (w : World) :
    Calls Try.prog 72 #[tv a b] w fun e w' => e = .returned (.bool (okB a b)) ∧ Below w.heap.size w w' := by
  obtain ⟨i0, i1⟩ := index40 a b
  have H : Hid (okB a b = decide (0 ≤ a ∧ a ≤ 7 ∧ 0 ≤ b ∧ b ≤ 7)) := rfl
  by_cases h1 : 0 ≤ a
  · by_cases h2 : a ≤ 7
    · by_cases h3 : 0 ≤ b
      · by_cases h4 : b ≤ 7
        all_goals
          go_enter Try.func72, Try.ntmps72
          go_wp2
          go_rounds 3
          go_returns
          refine ⟨ret_bool (by rw [H.out]; simp; omega), ?_⟩
          go_grown
      · go_enter Try.func72, Try.ntmps72
        go_wp2
        go_rounds 3
        go_returns
        refine ⟨ret_bool (by rw [H.out]; simp; omega), ?_⟩
        go_grown
    · go_enter Try.func72, Try.ntmps72
      go_wp2
      go_rounds 3
      go_returns
      refine ⟨ret_bool (by rw [H.out]; simp; omega), ?_⟩
      go_grown
  · go_enter Try.func72, Try.ntmps72
    go_wp2
    go_rounds 3
    go_returns
    refine ⟨ret_bool (by rw [H.out]; simp; omega), ?_⟩
    go_grown
end Go.Proofs.Ytlddhfimiignaaa

/-! What TimeLess, TimeJoin and TimeMeet answer, of the program and of its model: contracts. -/
namespace Go.Proofs.Ytlddhfimiignaaa
open Go.RowKit
attribute [local go_sem ↓] Go.wp_at_zero Go.wp_at_succ

def leB (a b c d : Int) : Bool := okB a b && okB c d && decide (a ≤ c) && decide (b ≤ d)

set_option maxHeartbeats 400000 in
theorem specLess_any (a b c d : Int) (w : World) :
    Calls Try.prog 152 #[tv a b, tv c d] w fun e w' => e = .returned (.bool (leB a b c d)) ∧ Below w.heap.size w w' := by
  have H : Hid (leB a b c d = (okB a b && okB c d && decide (a ≤ c) && decide (b ≤ d))) := rfl
  cases hs : okB a b
  · go_enter Try.func152, Try.ntmps152
    go_wp2_with fail
    refine (specOk_any _ _ _).mono ?_
    rintro e w1 ⟨rfl, hb1⟩
    go_wp2_with fail
    go_ret
    refine ⟨ret_bool (by rw [H.out]; simp [hs]), ?_⟩
    repeat' (first | (with_reducible exact Below.refl _ _) | (with_reducible assumption) | (with_reducible refine bStep ?_ (by with_reducible assumption)) | (with_reducible refine bAlloc ?_ _) | (with_reducible refine Below.drew ?_) | (with_reducible refine bDrewN ?_ _) | (with_reducible refine Below.setCell ?_ ?_ _) | (simp; done) | (simp; omega) | omega)
  · cases ht : okB c d
    · go_enter Try.func152, Try.ntmps152
      go_wp2_with fail
      refine (specOk_any _ _ _).mono ?_
      rintro e w1 ⟨rfl, hb1⟩
      obtain ⟨bs, bt⟩ := boxed2 hb1
      obtain ⟨t0, t1, _, _⟩ := bt.two
      go_wp2_with fail
      refine (specOk_any _ _ _).mono ?_
      rintro e w2 ⟨rfl, hb2⟩
      go_wp2_with fail
      go_ret
      refine ⟨ret_bool (by rw [H.out]; simp [ht]), ?_⟩
      repeat' (first | (with_reducible exact Below.refl _ _) | (with_reducible assumption) | (with_reducible refine bStep ?_ (by with_reducible assumption)) | (with_reducible refine bAlloc ?_ _) | (with_reducible refine Below.drew ?_) | (with_reducible refine bDrewN ?_ _) | (with_reducible refine Below.setCell ?_ ?_ _) | (simp; done) | (simp; omega) | omega)
    · by_cases h1 : a ≤ c
      · by_cases h2 : b ≤ d
        all_goals
          go_enter Try.func152, Try.ntmps152
          go_wp2_with fail
          refine (specOk_any _ _ _).mono ?_
          rintro e w1 ⟨rfl, hb1⟩
          obtain ⟨bs, bt⟩ := boxed2 hb1
          obtain ⟨s0, s1, _, _⟩ := bs.two
          obtain ⟨t0, t1, _, _⟩ := bt.two
          go_wp2_with fail
          refine (specOk_any _ _ _).mono ?_
          rintro e w2 ⟨rfl, hb2⟩
          obtain ⟨x0, x1, _, _⟩ := (bs.keep hb2).two
          obtain ⟨y0, y1, _, _⟩ := (bt.keep hb2).two
          go_wp2_with fail
          go_ret
          refine ⟨ret_bool (by rw [H.out]; simp [*]), ?_⟩
          repeat' (first | (with_reducible exact Below.refl _ _) | (with_reducible assumption) | (with_reducible refine bStep ?_ (by with_reducible assumption)) | (with_reducible refine bAlloc ?_ _) | (with_reducible refine Below.drew ?_) | (with_reducible refine bDrewN ?_ _) | (with_reducible refine Below.setCell ?_ ?_ _) | (simp; done) | (simp; omega) | omega)
      · go_enter Try.func152, Try.ntmps152
        go_wp2_with fail
        refine (specOk_any _ _ _).mono ?_
        rintro e w1 ⟨rfl, hb1⟩
        obtain ⟨bs, bt⟩ := boxed2 hb1
        obtain ⟨s0, s1, _, _⟩ := bs.two
        obtain ⟨t0, t1, _, _⟩ := bt.two
        go_wp2_with fail
        refine (specOk_any _ _ _).mono ?_
        rintro e w2 ⟨rfl, hb2⟩
        obtain ⟨x0, x1, _, _⟩ := (bs.keep hb2).two
        obtain ⟨y0, y1, _, _⟩ := (bt.keep hb2).two
        go_wp2_with fail
        go_ret
        refine ⟨ret_bool (by rw [H.out]; simp; omega), ?_⟩
        repeat' (first | (with_reducible exact Below.refl _ _) | (with_reducible assumption) | (with_reducible refine bStep ?_ (by with_reducible assumption)) | (with_reducible refine bAlloc ?_ _) | (with_reducible refine Below.drew ?_) | (with_reducible refine bDrewN ?_ _) | (with_reducible refine Below.setCell ?_ ?_ _) | (simp; done) | (simp; omega) | omega)
end Go.Proofs.Ytlddhfimiignaaa

/-! What the laws' own small functions on times answer: contracts. -/
namespace Go.Proofs.Ytlddhfimiignaaa
open Go.RowKit
set_option maxHeartbeats 400000 in
theorem toTime_any (a b : Int) (w : World) :
    Calls Try.prog 128 #[tv a b] w fun e w' => e = .returned (tv a b) ∧ Below w.heap.size w w' := by
  go_enter Try.func128, Try.ntmps128
  go_wp2
  go_returns
  refine ⟨rfl, ?_⟩
  repeat' (first | (with_reducible exact Below.refl _ _) | (with_reducible assumption) | (with_reducible refine bStep ?_ (by with_reducible assumption)) | (with_reducible refine bAlloc ?_ _) | (with_reducible refine Below.drew ?_) | (with_reducible refine bDrewN ?_ _) | (with_reducible refine Below.setCell ?_ ?_ _) | (simp; done) | (simp; omega) | omega)

def eqB (a b c d : Int) : Bool := decide (a = c ∧ b = d)
theorem eqB_self (a b : Int) : eqB a b a b = true := by simp [eqB]
set_option maxHeartbeats 400000 in
theorem eqTime_any (a b c d : Int) (w : World) :
    Calls Try.prog 91 #[tv a b, tv c d] w fun e w' => e = .returned (.bool (eqB a b c d)) ∧ Below w.heap.size w w' := by
  have H : Hid (eqB a b c d = decide (a = c ∧ b = d)) := rfl
  by_cases h1 : a = c
  · by_cases h2 : b = d
    · subst h1; subst h2
      go_enter Try.func91, Try.ntmps91
      go_wp2
      go_ret
      refine ⟨ret_bool (by rw [H.out]; simp), ?_⟩
      repeat' (first | (with_reducible exact Below.refl _ _) | (with_reducible assumption) | (with_reducible refine bStep ?_ (by with_reducible assumption)) | (with_reducible refine bAlloc ?_ _) | (with_reducible refine Below.drew ?_) | (with_reducible refine bDrewN ?_ _) | (with_reducible refine Below.setCell ?_ ?_ _) | (simp; done) | (simp; omega) | omega)
    · subst h1
      have h3 : (b == d) = false := by simpa using h2
      go_enter Try.func91, Try.ntmps91
      go_wp2
      go_ret
      refine ⟨ret_bool (by rw [H.out]; simp [h2]), ?_⟩
      repeat' (first | (with_reducible exact Below.refl _ _) | (with_reducible assumption) | (with_reducible refine bStep ?_ (by with_reducible assumption)) | (with_reducible refine bAlloc ?_ _) | (with_reducible refine Below.drew ?_) | (with_reducible refine bDrewN ?_ _) | (with_reducible refine Below.setCell ?_ ?_ _) | (simp; done) | (simp; omega) | omega)
  · have h3 : (a == c) = false := by simpa using h1
    go_enter Try.func91, Try.ntmps91
    go_wp2
    go_ret
    refine ⟨ret_bool (by rw [H.out]; simp [h1]), ?_⟩
    repeat' (first | (with_reducible exact Below.refl _ _) | (with_reducible assumption) | (with_reducible refine bStep ?_ (by with_reducible assumption)) | (with_reducible refine bAlloc ?_ _) | (with_reducible refine Below.drew ?_) | (with_reducible refine bDrewN ?_ _) | (with_reducible refine Below.setCell ?_ ?_ _) | (simp; done) | (simp; omega) | omega)
end Go.Proofs.Ytlddhfimiignaaa
