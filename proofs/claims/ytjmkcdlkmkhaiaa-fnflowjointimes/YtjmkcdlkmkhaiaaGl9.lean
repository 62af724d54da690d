/- Joins of two lists' times, found one by one: plain facts. -/
import Derived.Test.YtjmkcdlkmkhaiaaGl1
import Derived.Test.YtjmkcdlkmkhaiaaGs6
import Derived.Test.YtjmkcdlkmkhaiaaGb0
namespace Go.Proofs.Ytjmkcdlkmkhaiaa

/-- Whether the join of two times, by their places, is a time. -/
def joH (M1 M2 : List (Int × Int)) (A B : Int) (k j : Nat) : Bool := decide (jnA (tA M1 k) (tB M1 k) (tA M2 j) (tB M2 j) = A ∧ jnB (tA M1 k) (tB M1 k) (tA M2 j) (tB M2 j) = B)
def joR (M1 M2 : List (Int × Int)) (A B : Int) (k j : Nat) : Bool := (List.range j).any (joH M1 M2 A B k)
def joF (M1 M2 : List (Int × Int)) (A B : Int) (k : Nat) : Bool := (List.range k).any fun i => joR M1 M2 A B i M2.length
theorem joR_succ (M1 M2 : List (Int × Int)) (A B : Int) (k j : Nat) : joR M1 M2 A B k (j + 1) = (joR M1 M2 A B k j || joH M1 M2 A B k j) := by
  unfold joR; rw [List.range_succ, List.any_append]; simp
theorem joF_succ (M1 M2 : List (Int × Int)) (A B : Int) (k : Nat) : joF M1 M2 A B (k + 1) = (joF M1 M2 A B k || joR M1 M2 A B k M2.length) := by
  unfold joF; rw [List.range_succ, List.any_append]; simp
theorem joF_all {a b : List Rw} {r : Rw} (h : r ∈ fjoinL a b) : joF (timesL a) (timesL b) r.1.2.1 r.1.2.2 (timesL a).length = true := by
  have hr : rokB a = true ∧ rokB b = true := by
    unfold fjoinL at h
    split at h
    · rename_i hk; rw [Bool.and_eq_true] at hk; exact hk
    · simp at h
  obtain ⟨x, hx, y, hy, e⟩ := fjoin_times h
  have m1 : x.1.2 ∈ timesL a := by rw [times_yes hr.1]; exact (times_mem hr.1 _).2 ⟨x, hx, rfl⟩
  have m2 : y.1.2 ∈ timesL b := by rw [times_yes hr.2]; exact (times_mem hr.2 _).2 ⟨y, hy, rfl⟩
  obtain ⟨k, hk, e1⟩ := mem_at m1
  obtain ⟨j, hj, e2⟩ := mem_at m2
  unfold joF
  rw [List.any_eq_true]
  refine ⟨k, by simpa using hk, ?_⟩
  unfold joR
  rw [List.any_eq_true]
  refine ⟨j, by simpa using hj, ?_⟩
  unfold joH
  have q1 : x.1.2.1 = tA (timesL a) k := congrArg Prod.fst e1
  have q2 : x.1.2.2 = tB (timesL a) k := congrArg Prod.snd e1
  have q3 : y.1.2.1 = tA (timesL b) j := congrArg Prod.fst e2
  have q4 : y.1.2.2 = tB (timesL b) j := congrArg Prod.snd e2
  rw [← q1, ← q2, ← q3, ← q4, decide_eq_true_eq]
  rw [e]
  exact ⟨rfl, rfl⟩
end Go.Proofs.Ytjmkcdlkmkhaiaa
