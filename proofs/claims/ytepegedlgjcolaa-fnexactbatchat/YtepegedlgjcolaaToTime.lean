/- What the laws' own small functions on times answer: contracts. -/
import Derived.Test.YtepegedlgjcolaaTimeA
namespace Go.Proofs.Ytepegedlgjcolaa
open Go.RowKit
set_option maxHeartbeats 400000 in
theorem toTime_any (a b : Int) (w : World) :
    Calls Try.prog 50 #[tv a b] w fun e w' => e = .returned (tv a b) ∧ Below w.heap.size w w' := by
  go_enter Try.func50, Try.ntmps50
  go_wp2
  go_returns
  refine ⟨rfl, ?_⟩
  repeat' (first | (with_reducible exact Below.refl _ _) | (with_reducible assumption) | (with_reducible refine bStep ?_ (by with_reducible assumption)) | (with_reducible refine bAlloc ?_ _) | (with_reducible refine Below.drew ?_) | (with_reducible refine bDrewN ?_ _) | (with_reducible refine Below.setCell ?_ ?_ _) | (simp; done) | (simp; omega) | omega)

def eqB (a b c d : Int) : Bool := decide (a = c ∧ b = d)
theorem eqB_self (a b : Int) : eqB a b a b = true := by simp [eqB]
set_option maxHeartbeats 400000 in
theorem eqTime_any (a b c d : Int) (w : World) :
    Calls Try.prog 98 #[tv a b, tv c d] w fun e w' => e = .returned (.bool (eqB a b c d)) ∧ Below w.heap.size w w' := by
  have H : Hid (eqB a b c d = decide (a = c ∧ b = d)) := rfl
  by_cases h1 : a = c
  · by_cases h2 : b = d
    · subst h1; subst h2
      go_enter Try.func98, Try.ntmps98
      go_wp2
      go_ret
      refine ⟨ret_bool (by rw [H.out]; simp), ?_⟩
      repeat' (first | (with_reducible exact Below.refl _ _) | (with_reducible assumption) | (with_reducible refine bStep ?_ (by with_reducible assumption)) | (with_reducible refine bAlloc ?_ _) | (with_reducible refine Below.drew ?_) | (with_reducible refine bDrewN ?_ _) | (with_reducible refine Below.setCell ?_ ?_ _) | (simp; done) | (simp; omega) | omega)
    · subst h1
      have h3 : (b == d) = false := by simpa using h2
      go_enter Try.func98, Try.ntmps98
      go_wp2
      go_ret
      refine ⟨ret_bool (by rw [H.out]; simp [h2]), ?_⟩
      repeat' (first | (with_reducible exact Below.refl _ _) | (with_reducible assumption) | (with_reducible refine bStep ?_ (by with_reducible assumption)) | (with_reducible refine bAlloc ?_ _) | (with_reducible refine Below.drew ?_) | (with_reducible refine bDrewN ?_ _) | (with_reducible refine Below.setCell ?_ ?_ _) | (simp; done) | (simp; omega) | omega)
  · have h3 : (a == c) = false := by simpa using h1
    go_enter Try.func98, Try.ntmps98
    go_wp2
    go_ret
    refine ⟨ret_bool (by rw [H.out]; simp [h1]), ?_⟩
    repeat' (first | (with_reducible exact Below.refl _ _) | (with_reducible assumption) | (with_reducible refine bStep ?_ (by with_reducible assumption)) | (with_reducible refine bAlloc ?_ _) | (with_reducible refine Below.drew ?_) | (with_reducible refine bDrewN ?_ _) | (with_reducible refine Below.setCell ?_ ?_ _) | (simp; done) | (simp; omega) | omega)
end Go.Proofs.Ytepegedlgjcolaa
