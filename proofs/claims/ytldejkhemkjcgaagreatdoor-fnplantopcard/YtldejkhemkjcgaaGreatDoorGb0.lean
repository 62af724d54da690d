import Derived.Test.YtldejkhemkjcgaaGreatDoorGa8
import Derived.Deep.RegionHeld3
import Derived.Deep.AppendLies
namespace Go.Proofs.YtldejkhemkjcgaaGreatDoor
open Go.RowKit
abbrev okP (p : Int × Int) : Bool := okB p.1 p.2
abbrev leP (p q : Int × Int) : Bool := leB p.1 p.2 q.1 q.2
theorem leP_refl {p : Int × Int} (h : okP p = true) : leP p p = true := by unfold leP; rw [leB_self]; exact h
theorem any_iff {l : List (Int × Int)} {x y : Int} : anyB l x y = true ↔ ∃ p ∈ l, leB p.1 p.2 x y = true := by
  constructor
  · intro h
    obtain ⟨k, hk, hle⟩ := any_at h
    refine ⟨l[k], List.getElem_mem hk, ?_⟩
    simpa [tA, tB, hk] using hle
  · rintro ⟨p, hp, hle⟩
    obtain ⟨k, hk, rfl⟩ := List.getElem_of_mem hp
    exact any_true hk (by simpa [tA, tB, hk] using hle)
structure Kept (acc P : List (Int × Int)) : Prop where
  sub : ∀ p ∈ acc, p ∈ P
  anti : ∀ p ∈ acc, ∀ q ∈ acc, leP p q = true → p = q
  nodup : acc.Nodup
  cov : ∀ q ∈ P, ∃ p ∈ acc, leP p q = true
theorem Kept.step {acc P : List (Int × Int)} {x : Int × Int} (h : Kept acc P) (hx : okP x = true) : Kept (earlStep acc x) (P ++ [x]) := by
  unfold earlStep
  split
  · rename_i ha
    obtain ⟨p, hp, hle⟩ := any_iff.1 ha
    refine ⟨fun p hp => List.mem_append_left _ (h.sub p hp), h.anti, h.nodup, fun q hq => ?_⟩
    rcases List.mem_append.1 hq with hq | hq
    · exact h.cov q hq
    · obtain rfl : q = x := by simpa using hq
      exact ⟨p, hp, hle⟩
  · rename_i ha
    have hno : ∀ p ∈ acc, leP p x = false := fun p hp => by
      cases e : leP p x
      · rfl
      · exact absurd (any_iff.2 ⟨p, hp, e⟩) ha
    have hmem : ∀ p, p ∈ acc.filter (offB x.1 x.2) ++ [x] → (p ∈ acc ∧ leP x p = false) ∨ p = x := fun p hp => by
      rcases List.mem_append.1 hp with hp | hp
      · obtain ⟨h1, h2⟩ := List.mem_filter.1 hp
        refine .inl ⟨h1, ?_⟩
        simpa [offB] using h2
      · exact .inr (by simpa using hp)
    refine ⟨fun p hp => ?_, fun p hp q hq hle => ?_, ?_, fun q hq => ?_⟩
    · rcases hmem p hp with ⟨h1, _⟩ | rfl
      · exact List.mem_append_left _ (h.sub p h1)
      · simp
    · rcases hmem p hp with ⟨h1, h2⟩ | rfl <;> rcases hmem q hq with ⟨h3, h4⟩ | rfl
      · exact h.anti p h1 q h3 hle
      · rw [hno p h1] at hle; cases hle
      · rw [h4] at hle; cases hle
      · rfl
    · rw [List.nodup_append]
      refine ⟨h.nodup.filter _, by simp, fun a ha b hb => ?_⟩
      obtain rfl : b = x := by simpa using hb
      rintro rfl
      have := hno a (List.mem_filter.1 ha).1
      rw [leP_refl hx] at this; cases this
    · rcases List.mem_append.1 hq with hq | hq
      · obtain ⟨p, hp, hle⟩ := h.cov q hq
        cases e : leP x p
        · exact ⟨p, List.mem_append_left _ (List.mem_filter.2 ⟨hp, by simp [offB]; exact e⟩), hle⟩
        · exact ⟨x, by simp, leB_trans e hle⟩
      · obtain rfl : q = x := by simpa using hq
        exact ⟨q, by simp, leP_refl hx⟩
end Go.Proofs.YtldejkhemkjcgaaGreatDoor
namespace Go.Proofs.YtldejkhemkjcgaaGreatDoor
open Go.RowKit
end Go.Proofs.YtldejkhemkjcgaaGreatDoor
namespace Go.Proofs.YtldejkhemkjcgaaGreatDoor
open Go.RowKit
end Go.Proofs.YtldejkhemkjcgaaGreatDoor
namespace Go.Proofs.YtldejkhemkjcgaaGreatDoor
open Go.RowKit
end Go.Proofs.YtldejkhemkjcgaaGreatDoor
namespace Go.Proofs.YtldejkhemkjcgaaGreatDoor
open Go.RowKit
end Go.Proofs.YtldejkhemkjcgaaGreatDoor
namespace Go.Proofs.YtldejkhemkjcgaaGreatDoor
open Go.RowKit
end Go.Proofs.YtldejkhemkjcgaaGreatDoor
