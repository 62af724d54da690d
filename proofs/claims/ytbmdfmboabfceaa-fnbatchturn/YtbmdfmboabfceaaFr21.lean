/- Plain facts: a front covers what its times cover; it is told by what it covers; joins of two fronts. -/
import Derived.Test.YtbmdfmboabfceaaFr19
namespace Go.Proofs.Ytbmdfmboabfceaa
open Go.RowKit

theorem at_mem {l : List (Int × Int)} {k : Nat} (hk : k < l.length) : (tA l k, tB l k) ∈ l := by
  have e : l[k] = (tA l k, tB l k) := by simp [tA, tB, hk]
  rw [← e]; exact List.getElem_mem hk
theorem mem_at {l : List (Int × Int)} {p : Int × Int} (h : p ∈ l) : ∃ k, k < l.length ∧ p = (tA l k, tB l k) := by
  obtain ⟨k, hk, rfl⟩ := List.getElem_of_mem h
  exact ⟨k, hk, by simp [tA, tB, hk]⟩
theorem aok_of_mem {l : List (Int × Int)} (h : ∀ p ∈ l, okP p = true) : aokB l = true :=
  aok_true fun _ hj => h _ (at_mem hj)
theorem fok_aok {l : List (Int × Int)} (h : fokB l = true) : aokB l = true := aok_true fun _ hj => fok_ok h hj
/-- In a front the first numbers go up, the second ones down. -/
theorem fok_far {l : List (Int × Int)} (h : fokB l = true) (i : Nat) : ∀ d, i + d + 1 < l.length → tA l i < tA l (i + d + 1) ∧ tB l (i + d + 1) < tB l i := by
  intro d
  induction d with
  | zero =>
    intro hd
    have := fok_at h hd
    simp [stepOk] at this
    exact ⟨this.2.1, this.2.2⟩
  | succ d ih =>
    intro hd
    have h1 := ih (by omega)
    have h2 := fok_at h hd
    simp [stepOk] at h2
    have e : i + (d + 1) = i + d + 1 := by omega
    rw [e] at h2 ⊢
    omega
theorem fok_up {l : List (Int × Int)} (h : fokB l = true) : l.Pairwise fun p q => p.1 < q.1 := by
  rw [List.pairwise_iff_getElem]
  intro i j hi hj hij
  have := (fok_far h i (j - i - 1) (by omega)).1
  rw [show i + (j - i - 1) + 1 = j by omega] at this
  simpa [tA, hi, hj] using this
theorem fok_anti {l : List (Int × Int)} (h : fokB l = true) : ∀ p ∈ l, ∀ q ∈ l, leP p q = true → p = q := by
  intro p hp q hq hle
  obtain ⟨i, hi, rfl⟩ := mem_at hp
  obtain ⟨j, hj, rfl⟩ := mem_at hq
  have h1 := leB_iff.1 hle
  simp only at h1
  rcases Nat.lt_trichotomy i j with hij | rfl | hij
  · have := fok_far h i (j - i - 1) (by omega)
    rw [show i + (j - i - 1) + 1 = j by omega] at this
    omega
  · rfl
  · have := fok_far h j (i - j - 1) (by omega)
    rw [show j + (i - j - 1) + 1 = i by omega] at this
    omega
theorem front_none {l : List (Int × Int)} (h : aokB l = false) : frontL l = [] := by unfold frontL; rw [h]; rfl
theorem front_fok (l : List (Int × Int)) : fokB (frontL l) = true := by
  cases h : aokB l
  · rw [front_none h]; rfl
  · refine fok_true fun j hj => ?_
    have ho := front_ok _ (at_mem hj)
    unfold stepOk
    rw [show okB (tA (frontL l) j) (tB (frontL l) j) = true from ho, Bool.true_and]
    rcases j with _ | m
    · simp
    · have hm : m < (frontL l).length := by omega
      have h1 := List.pairwise_iff_getElem.1 (front_up l) m (m + 1) hm hj (by omega)
      have p1 := at_mem hm
      have p2 := at_mem hj
      have h2 : tA (frontL l) m < tA (frontL l) (m + 1) := by simpa [tA, hm, hj] using h1
      have h3 : tB (frontL l) (m + 1) < tB (frontL l) m := by
        rcases Int.lt_or_le (tB (frontL l) (m + 1)) (tB (frontL l) m) with h3 | h3
        · exact h3
        · have := ((front_mem h _).1 p2).2 _ ((front_mem h _).1 p1).1 (leB_iff.2 ⟨front_ok _ p1, front_ok _ p2, by simp; omega, by simp; omega⟩)
          rw [Prod.ext_iff] at this
          simp at this; omega
      simp [h2, h3]
theorem front_cov {l : List (Int × Int)} (h : aokB l = true) : ∀ q ∈ l, ∃ p ∈ frontL l, leP p q = true := by
  intro q hq
  obtain ⟨p, hp, hle⟩ := (earl_kept h).cov q hq
  exact ⟨p, (earl_perm h).mem_iff.1 hp, hle⟩
theorem front_any {l : List (Int × Int)} (h : aokB l = true) (X Y : Int) : anyB (frontL l) X Y = anyB l X Y := by
  rw [Bool.eq_iff_iff]
  constructor
  · intro h1
    obtain ⟨p, hp, hle⟩ := any_iff.1 h1
    exact any_iff.2 ⟨p, ((front_mem h p).1 hp).1, hle⟩
  · intro h1
    obtain ⟨q, hq, hle⟩ := any_iff.1 h1
    obtain ⟨p, hp, hpq⟩ := front_cov h q hq
    exact any_iff.2 ⟨p, hp, leB_trans hpq hle⟩
/-- A front is told by what it covers. -/
theorem fok_sub {f g : List (Int × Int)} (hf : fokB f = true) (h : ∀ X Y, anyB f X Y = anyB g X Y) : ∀ p ∈ f, p ∈ g := by
  intro p hp
  have ho := aok_mem (fok_aok hf) p hp
  have h1 : anyB g p.1 p.2 = true := by rw [← h]; exact any_iff.2 ⟨p, hp, leP_refl ho⟩
  obtain ⟨q, hq, hqp⟩ := any_iff.1 h1
  have hqq : leP q q = true := leP_refl (leB_iff.1 hqp).1
  have h2 : anyB f q.1 q.2 = true := by rw [h]; exact any_iff.2 ⟨q, hq, hqq⟩
  obtain ⟨r, hr, hrq⟩ := any_iff.1 h2
  obtain rfl := fok_anti hf r hr p hp (leB_trans hrq hqp)
  rw [leP_anti hrq hqp]; exact hq
theorem up_eq {f g : List (Int × Int)} (hf : f.Pairwise fun p q => p.1 < q.1) (hg : g.Pairwise fun p q => p.1 < q.1) (h : ∀ p, p ∈ f ↔ p ∈ g) : f = g := by
  have hp : f.Perm g := (List.perm_ext_iff_of_nodup (up_nodup hf) (up_nodup hg)).2 h
  refine List.Perm.eq_of_pairwise (le := fun p q => p.1 ≤ q.1) ?_ (hf.imp fun {p q} h => Int.le_of_lt h) (hg.imp fun {p q} h => Int.le_of_lt h) hp
  intro p q hp3 hq3 h1 h2
  exact up_inj hg p ((h p).1 hp3) q hq3 (by omega)
theorem fok_eq {f g : List (Int × Int)} (hf : fokB f = true) (hg : fokB g = true) (h : ∀ X Y, anyB f X Y = anyB g X Y) : f = g :=
  up_eq (fok_up hf) (fok_up hg) fun p => ⟨fok_sub hf h p, fok_sub hg (fun X Y => (h X Y).symm) p⟩
theorem front_self {f : List (Int × Int)} (hf : fokB f = true) : frontL f = f :=
  fok_eq (front_fok f) hf fun X Y => front_any (fok_aok hf) X Y
theorem front_self_iff (f : List (Int × Int)) : decide (frontL f = f) = fokB f := by
  cases h : fokB f
  · refine decide_eq_false fun e => ?_
    have := front_fok f
    rw [e, h] at this; cases this
  · exact decide_eq_true (front_self h)
theorem fok_len8 {f : List (Int × Int)} (hf : fokB f = true) : f.length ≤ 8 := by
  have := front_len8 f
  rw [front_self hf] at this; exact this

/-! ### Joins of two fronts. -/
def jAt (f g : List (Int × Int)) (n i : Nat) : Int × Int := (jnA (tA f (i / n)) (tB f (i / n)) (tA g (i % n)) (tB g (i % n)), jnB (tA f (i / n)) (tB f (i / n)) (tA g (i % n)) (tB g (i % n)))
/-- The first m joins. -/
def joinsTo (f g : List (Int × Int)) (n m : Nat) : List (Int × Int) := (List.range m).map (jAt f g n)
def joinsL (f g : List (Int × Int)) : List (Int × Int) := joinsTo f g g.length (f.length * g.length)
theorem joinsTo_len (f g : List (Int × Int)) (n m : Nat) : (joinsTo f g n m).length = m := by simp [joinsTo]
theorem joinsTo_succ (f g : List (Int × Int)) {n k j : Nat} (hj : j < n) : joinsTo f g n (k * n + (j + 1)) = joinsTo f g n (k * n + j) ++ [(jnA (tA f k) (tB f k) (tA g j) (tB g j), jnB (tA f k) (tB f k) (tA g j) (tB g j))] := by
  have e1 : (k * n + j) / n = k := by
    rw [Nat.mul_comm, Nat.mul_add_div (by omega), Nat.div_eq_of_lt hj, Nat.add_zero]
  have e2 : (k * n + j) % n = j := by
    rw [Nat.mul_comm, Nat.mul_add_mod, Nat.mod_eq_of_lt hj]
  unfold joinsTo
  rw [← Nat.add_assoc, List.range_succ, List.map_append, List.map_cons, List.map_nil]
  unfold jAt
  rw [e1, e2]
theorem joins_mem {f g : List (Int × Int)} {p : Int × Int} : p ∈ joinsL f g ↔ ∃ a ∈ f, ∃ b ∈ g, p = (jnA a.1 a.2 b.1 b.2, jnB a.1 a.2 b.1 b.2) := by
  unfold joinsL joinsTo
  rw [List.mem_map]
  constructor
  · rintro ⟨i, hi, rfl⟩
    rw [List.mem_range] at hi
    have hg : 0 < g.length := by
      rcases Nat.eq_zero_or_pos g.length with h | h
      · rw [h, Nat.mul_zero] at hi; omega
      · exact h
    have h1 : i / g.length < f.length := (Nat.div_lt_iff_lt_mul hg).2 hi
    have h2 : i % g.length < g.length := Nat.mod_lt _ hg
    exact ⟨_, at_mem h1, _, at_mem h2, rfl⟩
  · rintro ⟨a, ha, b, hb, rfl⟩
    obtain ⟨i, hi, rfl⟩ := mem_at ha
    obtain ⟨j, hj, rfl⟩ := mem_at hb
    have hg : 0 < g.length := by omega
    refine ⟨i * g.length + j, List.mem_range.2 ?_, ?_⟩
    · have : (i + 1) * g.length ≤ f.length * g.length := Nat.mul_le_mul_right _ hi
      rw [Nat.succ_mul] at this
      omega
    · have e1 : (i * g.length + j) / g.length = i := by
        rw [Nat.mul_comm, Nat.mul_add_div hg, Nat.div_eq_of_lt hj, Nat.add_zero]
      have e2 : (i * g.length + j) % g.length = j := by
        rw [Nat.mul_comm, Nat.mul_add_mod, Nat.mod_eq_of_lt hj]
      unfold jAt
      rw [e1, e2]
theorem joins_aok {f g : List (Int × Int)} (hf : aokB f = true) (hg : aokB g = true) : aokB (joinsL f g) = true := by
  refine aok_of_mem fun p hp => ?_
  obtain ⟨a, ha, b, hb, rfl⟩ := joins_mem.1 hp
  exact jn_ok (aok_mem hf a ha) (aok_mem hg b hb)
theorem joins_any {f g : List (Int × Int)} (hf : aokB f = true) (hg : aokB g = true) (X Y : Int) : anyB (joinsL f g) X Y = (anyB f X Y && anyB g X Y) := by
  rw [Bool.eq_iff_iff, Bool.and_eq_true]
  constructor
  · intro h
    obtain ⟨p, hp, hle⟩ := any_iff.1 h
    obtain ⟨a, ha, b, hb, rfl⟩ := joins_mem.1 hp
    have h1 := aok_mem hf a ha
    have h2 := aok_mem hg b hb
    exact ⟨any_iff.2 ⟨a, ha, leB_trans (jn_left h1 h2) hle⟩, any_iff.2 ⟨b, hb, leB_trans (jn_right h1 h2) hle⟩⟩
  · rintro ⟨h1, h2⟩
    obtain ⟨a, ha, hla⟩ := any_iff.1 h1
    obtain ⟨b, hb, hlb⟩ := any_iff.1 h2
    exact any_iff.2 ⟨_, joins_mem.2 ⟨a, ha, b, hb, rfl⟩, jn_least hla hlb⟩
/-- What FrontBoth answers. -/
def bothL (f g : List (Int × Int)) : List (Int × Int) := if fokB f && fokB g then frontL (joinsL f g) else []
theorem both_yes {f g : List (Int × Int)} (hf : fokB f = true) (hg : fokB g = true) : bothL f g = frontL (joinsL f g) := by unfold bothL; rw [hf, hg]; rfl
theorem both_no1 {f g : List (Int × Int)} (hf : fokB f = false) : bothL f g = [] := by unfold bothL; rw [hf]; rfl
theorem both_no2 {f g : List (Int × Int)} (hg : fokB g = false) : bothL f g = [] := by unfold bothL; rw [hg, Bool.and_false]; rfl
theorem both_fok (f g : List (Int × Int)) : fokB (bothL f g) = true := by
  unfold bothL; split
  · exact front_fok _
  · rfl
theorem both_len (f g : List (Int × Int)) : (bothL f g).length ≤ 8 := fok_len8 (both_fok f g)
theorem both_any {f g : List (Int × Int)} (hf : fokB f = true) (hg : fokB g = true) (X Y : Int) : anyB (bothL f g) X Y = (anyB f X Y && anyB g X Y) := by
  rw [both_yes hf hg, front_any (joins_aok (fok_aok hf) (fok_aok hg)), joins_any (fok_aok hf) (fok_aok hg)]
theorem both_turn (f g : List (Int × Int)) : bothL g f = bothL f g := by
  cases hf : fokB f
  · rw [both_no1 hf, both_no2 hf]
  cases hg : fokB g
  · rw [both_no1 hg, both_no2 hg]
  exact fok_eq (both_fok _ _) (both_fok _ _) fun X Y => by rw [both_any hg hf, both_any hf hg, Bool.and_comm]
theorem both_self {f : List (Int × Int)} (hf : fokB f = true) : bothL f f = f :=
  fok_eq (both_fok _ _) hf fun X Y => by rw [both_any hf hf, Bool.and_self]
end Go.Proofs.Ytbmdfmboabfceaa
