/- Plain facts: the earliest of times, in the order of their first numbers, are their front. -/
import Derived.Test.YtbmdfmboabfceaaFr16
import Derived.Test.YtbmdfmboabfceaaFr13
namespace Go.Proofs.Ytbmdfmboabfceaa
open Go.RowKit

abbrev okP (p : Int × Int) : Bool := okB p.1 p.2
abbrev leP (p q : Int × Int) : Bool := leB p.1 p.2 q.1 q.2
theorem leP_anti {p q : Int × Int} (h : leP p q = true) (h' : leP q p = true) : p = q := by
  obtain ⟨h1, h2⟩ := leB_anti h h'; exact Prod.ext h1 h2
theorem leP_refl {p : Int × Int} (h : okP p = true) : leP p p = true := by unfold leP; rw [leB_self]; exact h
theorem any_iff {l : List (Int × Int)} {x y : Int} : anyB l x y = true ↔ ∃ p ∈ l, leB p.1 p.2 x y = true := by
  constructor
  · intro h
    obtain ⟨k, hk, hle⟩ := any_at h
    refine ⟨l[k], List.getElem_mem hk, ?_⟩
    simpa [tA, tB, hk] using hle
  · rintro ⟨p, hp, hle⟩
    obtain ⟨k, hk, rfl⟩ := List.getElem_of_mem hp
    exact any_true hk (by simpa [tA, tB, hk] using hle)
/-- What holds of those kept of the times in P. -/
structure Kept (acc P : List (Int × Int)) : Prop where
  sub : ∀ p ∈ acc, p ∈ P
  anti : ∀ p ∈ acc, ∀ q ∈ acc, leP p q = true → p = q
  nodup : acc.Nodup
  cov : ∀ q ∈ P, ∃ p ∈ acc, leP p q = true
theorem Kept.step {acc P : List (Int × Int)} {x : Int × Int} (h : Kept acc P) (hx : okP x = true) : Kept (earlStep acc x) (P ++ [x]) := by
  unfold earlStep
  split
  · rename_i ha
    obtain ⟨p, hp, hle⟩ := any_iff.1 ha
    refine ⟨fun p hp => List.mem_append_left _ (h.sub p hp), h.anti, h.nodup, fun q hq => ?_⟩
    rcases List.mem_append.1 hq with hq | hq
    · exact h.cov q hq
    · obtain rfl : q = x := by simpa using hq
      exact ⟨p, hp, hle⟩
  · rename_i ha
    have hno : ∀ p ∈ acc, leP p x = false := fun p hp => by
      cases e : leP p x
      · rfl
      · exact absurd (any_iff.2 ⟨p, hp, e⟩) ha
    have hmem : ∀ p, p ∈ acc.filter (offB x.1 x.2) ++ [x] → (p ∈ acc ∧ leP x p = false) ∨ p = x := fun p hp => by
      rcases List.mem_append.1 hp with hp | hp
      · obtain ⟨h1, h2⟩ := List.mem_filter.1 hp
        refine .inl ⟨h1, ?_⟩
        simpa [offB] using h2
      · exact .inr (by simpa using hp)
    refine ⟨fun p hp => ?_, fun p hp q hq hle => ?_, ?_, fun q hq => ?_⟩
    · rcases hmem p hp with ⟨h1, _⟩ | rfl
      · exact List.mem_append_left _ (h.sub p h1)
      · simp
    · rcases hmem p hp with ⟨h1, h2⟩ | rfl <;> rcases hmem q hq with ⟨h3, h4⟩ | rfl
      · exact h.anti p h1 q h3 hle
      · rw [hno p h1] at hle; cases hle
      · rw [h4] at hle; cases hle
      · rfl
    · rw [List.nodup_append]
      refine ⟨h.nodup.filter _, by simp, fun a ha b hb => ?_⟩
      obtain rfl : b = x := by simpa using hb
      rintro rfl
      have := hno a (List.mem_filter.1 ha).1
      rw [leP_refl hx] at this; cases this
    · rcases List.mem_append.1 hq with hq | hq
      · obtain ⟨p, hp, hle⟩ := h.cov q hq
        cases e : leP x p
        · exact ⟨p, List.mem_append_left _ (List.mem_filter.2 ⟨hp, by simp [offB]; exact e⟩), hle⟩
        · exact ⟨x, by simp, leB_trans e hle⟩
      · obtain rfl : q = x := by simpa using hq
        exact ⟨q, by simp, leP_refl hx⟩
theorem Kept.fold {xs : List (Int × Int)} : ∀ {acc P : List (Int × Int)}, Kept acc P → (∀ p ∈ xs, okP p = true) → Kept (xs.foldl earlStep acc) (P ++ xs) := by
  induction xs with
  | nil => intro acc P h _; simpa using h
  | cons x xs ih =>
    intro acc P h hx
    have h1 := h.step (hx x (by simp))
    have h2 := ih h1 (fun p hp => hx p (by simp [hp]))
    simpa using h2
theorem aok_mem {l : List (Int × Int)} (h : aokB l = true) : ∀ p ∈ l, okP p = true := by
  intro p hp
  obtain ⟨k, hk, rfl⟩ := List.getElem_of_mem hp
  unfold aokB at h
  rw [List.all_eq_true] at h
  have := h k (by simpa using hk)
  simpa [tA, tB, hk] using this
theorem earl_kept {l : List (Int × Int)} (h : aokB l = true) : Kept (earlTo l l.length) l := by
  unfold earlTo
  rw [List.take_length]
  have := Kept.fold (xs := l) (acc := []) (P := []) ⟨by simp, by simp, by simp, by simp⟩ (aok_mem h)
  simpa using this
theorem Kept.iff {acc P : List (Int × Int)} (h : Kept acc P) (p : Int × Int) : p ∈ acc ↔ p ∈ P ∧ ∀ q ∈ P, leP q p = true → q = p := by
  constructor
  · intro hp
    refine ⟨h.sub p hp, fun q hq hle => ?_⟩
    obtain ⟨r, hr, hrq⟩ := h.cov q hq
    obtain rfl := h.anti r hr p hp (leB_trans hrq hle)
    exact leP_anti hle hrq
  · rintro ⟨hp, hmin⟩
    obtain ⟨r, hr, hrp⟩ := h.cov p hp
    rw [← hmin r (h.sub r hr) hrp]; exact hr

theorem least_iff {l : List (Int × Int)} {a b : Int} : leastB l a b = true ↔ (a, b) ∈ l ∧ ∀ q ∈ l, leP q (a, b) = true → q = (a, b) := by
  have e : ∀ i, (hi : i < l.length) → eqAt l a b i = decide (l[i] = (a, b)) := fun i hi => by
    unfold eqAt
    simp [tA, tB, hi, Prod.ext_iff]
  have e2 : ∀ i, (hi : i < l.length) → leB (tA l i) (tB l i) a b = leP l[i] (a, b) := fun i hi => by simp [tA, tB, hi]
  unfold leastB memTo lowTo
  rw [Bool.and_eq_true, List.any_eq_true, Bool.not_eq_true', List.any_eq_false]
  constructor
  · rintro ⟨⟨i, hi, h1⟩, h2⟩
    rw [List.mem_range] at hi
    rw [e i hi] at h1
    refine ⟨by have := List.getElem_mem hi; rw [of_decide_eq_true h1] at this; exact this, fun q hq hle => ?_⟩
    obtain ⟨j, hj, rfl⟩ := List.getElem_of_mem hq
    have := h2 j (List.mem_range.2 hj)
    unfold lowAt at this
    rw [e j hj, e2 j hj, hle] at this
    simpa using this
  · rintro ⟨h1, h2⟩
    obtain ⟨i, hi, h3⟩ := List.getElem_of_mem h1
    refine ⟨⟨i, List.mem_range.2 hi, by rw [e i hi]; simpa using h3⟩, fun j hj => ?_⟩
    rw [List.mem_range] at hj
    unfold lowAt
    rw [e j hj, e2 j hj]
    have := h2 l[j] (List.getElem_mem hj)
    cases hle : leP l[j] (a, b)
    · simp
    · simp [this hle]
theorem front_mem {l : List (Int × Int)} (h : aokB l = true) (p : Int × Int) : p ∈ frontL l ↔ p ∈ l ∧ ∀ q ∈ l, leP q p = true → q = p := by
  unfold frontL
  rw [if_pos h]
  unfold frTo
  rw [List.mem_map]
  constructor
  · rintro ⟨i, hi, rfl⟩
    exact least_iff.1 (List.mem_filter.1 hi).2
  · rintro ⟨h1, h2⟩
    have ho := okB_iff.1 (aok_mem h p h1)
    have e1 : gA (p.1.toNat * 8 + (7 - p.2).toNat) = p.1 := by unfold gA; omega
    have e2 : gB (p.1.toNat * 8 + (7 - p.2).toNat) = p.2 := by unfold gB; omega
    refine ⟨p.1.toNat * 8 + (7 - p.2).toNat, List.mem_filter.2 ⟨List.mem_range.2 (by omega), ?_⟩, by rw [e1, e2]⟩
    rw [e1, e2]
    exact least_iff.2 ⟨h1, h2⟩
/-- A front's first numbers go up. -/
theorem front_up (l : List (Int × Int)) : (frontL l).Pairwise fun p q => p.1 < q.1 := by
  unfold frontL
  split
  · rename_i h
    unfold frTo
    rw [List.pairwise_map, List.pairwise_filter]
    refine List.Pairwise.imp_of_mem ?_ (List.pairwise_lt_range (n := 64))
    intro i j hi hj hij h1 h2
    rw [List.mem_range] at hi hj
    have a1 : gA i ≤ gA j := by unfold gA; omega
    have a2 : gA i = gA j → gB j < gB i := by unfold gA gB; omega
    by_cases e : gA i = gA j
    · have h3 := least_iff.1 h1
      have h4 := least_iff.1 h2
      have o1 := aok_mem h _ h3.1
      have o2 := aok_mem h _ h4.1
      have := h3.2 _ h4.1 (leB_iff.2 ⟨o2, o1, by simp; omega, by have := a2 e; simp; omega⟩)
      rw [Prod.ext_iff] at this
      have := a2 e
      simp at *; omega
    · omega
  · simp
theorem up_nodup {l : List (Int × Int)} (h : l.Pairwise fun p q => p.1 < q.1) : l.Nodup := h.imp fun {p q} hlt e => by subst e; omega
theorem up_inj {l : List (Int × Int)} (h : l.Pairwise fun p q => p.1 < q.1) : ∀ p ∈ l, ∀ q ∈ l, p.1 = q.1 → p = q := by
  induction h with
  | nil => simp
  | cons hd _ ih =>
    intro p hp q hq e
    rcases List.mem_cons.1 hp with rfl | hp1 <;> rcases List.mem_cons.1 hq with rfl | hq1
    · rfl
    · have := hd q hq1; omega
    · have := hd p hp1; omega
    · exact ih p hp1 q hq1 e
theorem up_len {l : List (Int × Int)} (h : l.Pairwise fun p q => p.1 < q.1) : ∀ lo : Nat, (∀ p ∈ l, (lo : Int) ≤ p.1 ∧ p.1 ≤ 7) → l.length ≤ 8 - lo := by
  induction h with
  | nil => simp
  | cons hd _ ih =>
    rename_i a l _
    intro lo hlo
    obtain ⟨h1, h2⟩ := hlo a (by simp)
    have := ih (lo + 1) (fun p hp => by have := hd p hp; have := hlo p (by simp [hp]); omega)
    simp; omega
theorem front_ok {l : List (Int × Int)} : ∀ p ∈ frontL l, okP p = true := by
  intro p hp
  cases h : aokB l
  · unfold frontL at hp; rw [h] at hp; simp at hp
  · exact aok_mem h p ((front_mem h p).1 hp).1
theorem front_len8 (l : List (Int × Int)) : (frontL l).length ≤ 8 :=
  up_len (front_up l) 0 fun p hp => by have := okB_iff.1 (front_ok p hp); omega
theorem earl_perm {l : List (Int × Int)} (h : aokB l = true) : (earlTo l l.length).Perm (frontL l) :=
  (List.perm_ext_iff_of_nodup (earl_kept h).nodup (up_nodup (front_up l))).2 fun p => ((earl_kept h).iff p).trans (front_mem h p).symm
theorem earl_sort {l l' : List (Int × Int)} (h : aokB l = true) (hp : l'.Perm (earlTo l l.length)) (hs : ∀ a b, a < b → b < l'.length → tA l' a ≤ tA l' b) : l' = frontL l := by
  have hp2 := hp.trans (earl_perm h)
  refine List.Perm.eq_of_pairwise (le := fun p q => p.1 ≤ q.1) ?_ ?_ ((front_up l).imp fun {p q} h => Int.le_of_lt h) hp2
  · intro p q hp3 hq3 h1 h2
    exact up_inj (front_up l) p (hp2.mem_iff.1 hp3) q hq3 (by omega)
  · rw [List.pairwise_iff_getElem]
    intro i j hi hj hij
    have := hs i j hij hj
    simpa [tA, hi, hj] using this
end Go.Proofs.Ytbmdfmboabfceaa
