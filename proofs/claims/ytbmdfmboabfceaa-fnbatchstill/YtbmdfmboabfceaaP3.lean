/- At any time it is as at the join of the times of all rows that are not later: plain facts. -/
import Derived.Test.YtbmdfmboabfceaaGk2
import Derived.Test.YtbmdfmboabfceaaGa3
namespace Go.Proofs.Ytbmdfmboabfceaa
open Go.RowKit

theorem still_items {l : List Rw} {x y J1 J2 : Int} (hr : rokB l = true) (hx : okB x y = true) (hJ : leB J1 J2 x y = true) (h : ∀ r ∈ l, leB r.1.2.1 r.1.2.2 x y = true → leB r.1.2.1 r.1.2.2 J1 J2 = true) : itemsL l J1 J2 = itemsL l x y := by
  have hj := (leB_iff.1 hJ).1
  rw [items_yes hr hx, items_yes hr hj]
  have e : atL l J1 J2 = atL l x y := by
    unfold atL
    congr 1
    refine List.filter_congr fun r hr => ?_
    cases e : leB r.1.2.1 r.1.2.2 x y
    · rw [Bool.eq_false_iff]; intro c
      rw [leB_trans c hJ] at e; cases e
    · exact h r hr e
  rw [e]
theorem still_start {x y : Int} (h : okB x y = true) : leB 0 0 x y = true := by
  rw [okB_iff] at h; rw [leB_iff]; exact ⟨by decide, by rw [okB_iff]; exact h, by omega, by omega⟩
theorem still_step {l : List Rw} {k : Nat} {r : Rw} {x y J1 J2 : Int} (hr : l[k]? = some r) (hJ : leB J1 J2 x y = true) (h : ∀ q ∈ l.take k, leB q.1.2.1 q.1.2.2 x y = true → leB q.1.2.1 q.1.2.2 J1 J2 = true) (hle : leB r.1.2.1 r.1.2.2 x y = true) :
    leB (jnA J1 J2 r.1.2.1 r.1.2.2) (jnB J1 J2 r.1.2.1 r.1.2.2) x y = true ∧ ∀ q ∈ l.take (k + 1), leB q.1.2.1 q.1.2.2 x y = true → leB q.1.2.1 q.1.2.2 (jnA J1 J2 r.1.2.1 r.1.2.2) (jnB J1 J2 r.1.2.1 r.1.2.2) = true := by
  have h1 := (leB_iff.1 hJ).1
  have h2 := (leB_iff.1 hle).1
  refine ⟨jn_least hJ hle, fun q hq hqx => ?_⟩
  rw [take_snoc hr] at hq
  rcases List.mem_append.1 hq with hq | hq
  · exact leB_trans (h q hq hqx) (jn_left h1 h2)
  · rw [List.mem_singleton.1 hq]; exact jn_right h1 h2
theorem still_skip {l : List Rw} {k : Nat} {r : Rw} {x y J1 J2 : Int} (hr : l[k]? = some r) (h : ∀ q ∈ l.take k, leB q.1.2.1 q.1.2.2 x y = true → leB q.1.2.1 q.1.2.2 J1 J2 = true) (hle : leB r.1.2.1 r.1.2.2 x y = false) :
    ∀ q ∈ l.take (k + 1), leB q.1.2.1 q.1.2.2 x y = true → leB q.1.2.1 q.1.2.2 J1 J2 = true := fun q hq hqx => by
  rw [take_snoc hr] at hq
  rcases List.mem_append.1 hq with hq | hq
  · exact h q hq hqx
  · rw [List.mem_singleton.1 hq, hle] at hqx; cases hqx
end Go.Proofs.Ytbmdfmboabfceaa
