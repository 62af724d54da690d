import Derived.Test.YtbdpcngcbnoioaaGreatDoorGa8
import Derived.Deep.RegionHeld3
import Derived.Deep.AppendLies
namespace Go.Proofs.YtbdpcngcbnoioaaGreatDoor
open Go.RowKit
abbrev okP (p : Int × Int) : Bool := okB p.1 p.2
abbrev leP (p q : Int × Int) : Bool := leB p.1 p.2 q.1 q.2
theorem leP_refl {p : Int × Int} (h : okP p = true) : leP p p = true := by unfold leP; rw [leB_self]; exact h
theorem any_iff {l : List (Int × Int)} {x y : Int} : anyB l x y = true ↔ ∃ p ∈ l, leB p.1 p.2 x y = true := by
  constructor
  · intro h
    obtain ⟨k, hk, hle⟩ := any_at h
    refine ⟨l[k], List.getElem_mem hk, ?_⟩
    simpa [tA, tB, hk] using hle
  · rintro ⟨p, hp, hle⟩
    obtain ⟨k, hk, rfl⟩ := List.getElem_of_mem hp
    exact any_true hk (by simpa [tA, tB, hk] using hle)
structure Kept (acc P : List (Int × Int)) : Prop where
  sub : ∀ p ∈ acc, p ∈ P
  anti : ∀ p ∈ acc, ∀ q ∈ acc, leP p q = true → p = q
  nodup : acc.Nodup
  cov : ∀ q ∈ P, ∃ p ∈ acc, leP p q = true
theorem Kept.step {acc P : List (Int × Int)} {x : Int × Int} (h : Kept acc P) (hx : okP x = true) : Kept (earlStep acc x) (P ++ [x]) := by
  unfold earlStep
  split
  · rename_i ha
    obtain ⟨p, hp, hle⟩ := any_iff.1 ha
    refine ⟨fun p hp => List.mem_append_left _ (h.sub p hp), h.anti, h.nodup, fun q hq => ?_⟩
    rcases List.mem_append.1 hq with hq | hq
    · exact h.cov q hq
    · obtain rfl : q = x := by simpa using hq
      exact ⟨p, hp, hle⟩
  · rename_i ha
    have hno : ∀ p ∈ acc, leP p x = false := fun p hp => by
      cases e : leP p x
      · rfl
      · exact absurd (any_iff.2 ⟨p, hp, e⟩) ha
    have hmem : ∀ p, p ∈ acc.filter (offB x.1 x.2) ++ [x] → (p ∈ acc ∧ leP x p = false) ∨ p = x := fun p hp => by
      rcases List.mem_append.1 hp with hp | hp
      · obtain ⟨h1, h2⟩ := List.mem_filter.1 hp
        refine .inl ⟨h1, ?_⟩
        simpa [offB] using h2
      · exact .inr (by simpa using hp)
    refine ⟨fun p hp => ?_, fun p hp q hq hle => ?_, ?_, fun q hq => ?_⟩
    · rcases hmem p hp with ⟨h1, _⟩ | rfl
      · exact List.mem_append_left _ (h.sub p h1)
      · simp
    · rcases hmem p hp with ⟨h1, h2⟩ | rfl <;> rcases hmem q hq with ⟨h3, h4⟩ | rfl
      · exact h.anti p h1 q h3 hle
      · rw [hno p h1] at hle; cases hle
      · rw [h4] at hle; cases hle
      · rfl
    · rw [List.nodup_append]
      refine ⟨h.nodup.filter _, by simp, fun a ha b hb => ?_⟩
      obtain rfl : b = x := by simpa using hb
      rintro rfl
      have := hno a (List.mem_filter.1 ha).1
      rw [leP_refl hx] at this; cases this
    · rcases List.mem_append.1 hq with hq | hq
      · obtain ⟨p, hp, hle⟩ := h.cov q hq
        cases e : leP x p
        · exact ⟨p, List.mem_append_left _ (List.mem_filter.2 ⟨hp, by simp [offB]; exact e⟩), hle⟩
        · exact ⟨x, by simp, leB_trans e hle⟩
      · obtain rfl : q = x := by simpa using hq
        exact ⟨q, by simp, leP_refl hx⟩
end Go.Proofs.YtbdpcngcbnoioaaGreatDoor
namespace Go.Proofs.YtbdpcngcbnoioaaGreatDoor
open Go.RowKit
end Go.Proofs.YtbdpcngcbnoioaaGreatDoor
namespace Go.Proofs.YtbdpcngcbnoioaaGreatDoor
open Go.RowKit
end Go.Proofs.YtbdpcngcbnoioaaGreatDoor
namespace Go.Proofs.YtbdpcngcbnoioaaGreatDoor
open Go.RowKit
theorem eq_at {l l' : List (Int × Int)} (hn : l.length = l'.length) (h : ∀ j, j < l.length → tA l j = tA l' j ∧ tB l j = tB l' j) : l = l' := by
  apply List.ext_getElem hn
  intro i h1 h2
  have := h i h1
  simp [tA, tB, h1, h2] at this
  exact Prod.ext this.1 this.2
theorem ne_at {l l' : List (Int × Int)} {j : Nat} (h : ¬ (tA l j = tA l' j ∧ tB l j = tB l' j)) : decide (l = l') = false :=
  decide_eq_false fun e => h (by subst e; exact ⟨rfl, rfl⟩)
set_option maxHeartbeats 4000000 in
theorem lwTimes_any (v v' : Value) (l l' : List (Int × Int)) (w : World) (h : Ts w v l) (h' : Ts w v' l') :
    Calls Tryz.prog 28 #[v, v'] w fun e w' => e = .returned (.bool (decide (l = l'))) ∧ Below w.heap.size w w' := by
  obtain ⟨a, cap, rfl, hc, hm, hn, hcells⟩ := h
  obtain ⟨a', cap', rfl, hc', hm', hn', hcells'⟩ := h'
  unfold maxLen at hm hm'
  have HC := (show Hid _ from hcells)
  have HC' := (show Hid _ from hcells')
  clear hcells hcells'
  by_cases hlen : l.length = l'.length
  · have HE : Hid (l.length = l'.length) := hlen
    rw [← hlen] at hc' HC' ⊢
    clear hlen hn'
    go_enter Tryz.func28, Tryz.ntmps28
    go_wp2_with fail
    go_loopw [5] (fun i wr => ∃ k : Nat, k ≤ l.length ∧ i = .int .i64 k ∧ (∀ j, j < k → tA l j = tA l' j ∧ tB l j = tB l' j) ∧ Below w.heap.size w wr) (fun i _ => l.length - (intOf i).toNat)
    case atStart => exact ⟨0, by omega, rfl, fun j hj => by omega, Below.refl _ _⟩
    case round =>
      obtain ⟨k, hk, rfl, hall, hb⟩ := hrel
      have HA := (show Hid _ from hall)
      clear hall
      by_cases hlt : k < l.length
      · obtain ⟨g, off, rfl, hg, c0, c1⟩ := HC.out k hlt
        obtain ⟨g', off', rfl, hg', p0, p1⟩ := HC'.out k hlt
        have d0 := cell_below hb c0
        have d1 := cell_below hb c1
        have e0 := cell_below hb p0
        have e1 := cell_below hb p1
        clear c0 c1 p0 p1
        have HN : Hid (¬ (tA l k = tA l' k ∧ tB l k = tB l' k) → decide (l = l') = false) := fun h => ne_at h
        have HY : Hid ((tA l k = tA l' k ∧ tB l k = tB l' k) → ∀ j, j < k + 1 → tA l j = tA l' j ∧ tB l j = tB l' j) := fun h j hj => by
          by_cases e : j = k
          · subst e; exact h
          · exact HA.out j (by omega)
        generalize tA l k = X at *
        generalize tB l k = Y at *
        generalize tA l' k = X' at *
        generalize tB l' k = Y' at *
        have ik : ((k : Int) < (l.length : Int)) := by omega
        by_cases hX : X = X'
        · by_cases hY : Y = Y'
          · subst hX hY
            go_wp2_with fail
            go_quiet (fail)
            go_wp2_with fail
            go_roundw
            case rel => exact ⟨k + 1, by omega, by go_num, HY.out (by simp), bDrewN hb _⟩
            case measure => simp [intOf]; omega
          · subst hX
            have ny : (Y == Y') = false := beq_eq_false_iff_ne.2 hY
            go_wp2_with fail
            go_quiet (fail)
            go_wp2_with fail
            go_ret
            exact ⟨ret_bool (HN.out (fun h => hY h.2)).symm, bDrewN hb _⟩
        · have nx : (X == X') = false := beq_eq_false_iff_ne.2 hX
          go_wp2_with fail
          go_quiet (fail)
          go_wp2_with fail
          go_ret
          exact ⟨ret_bool (HN.out (fun h => hX h.1)).symm, bDrewN hb _⟩
      · go_wp2_with fail
        go_ret
        exact ⟨ret_bool (decide_eq_true (eq_at HE.out fun j hj => HA.out j (by omega))).symm, hb⟩
  · have hd : decide (l = l') = false := decide_eq_false fun e => hlen (by rw [e])
    rw [hd]
    have hne : ((l.length : Int) == (l'.length : Int)) = false := beq_eq_false_iff_ne.2 (by omega)
    generalize l.length = n at *
    generalize l'.length = n' at *
    go_enter Tryz.func28, Tryz.ntmps28
    go_wp2_with fail
    go_ret
    exact ⟨rfl, Below.refl _ _⟩
theorem lwTimes_eq {l l' : List (Int × Int)} {r : Bool} (h : decide (l = l') = r) {v v' : Value} {w : World} (ht : Ts w v l) (ht' : Ts w v' l') :
    Calls Tryz.prog 28 #[v, v'] w fun e w' => e = .returned (.bool r) ∧ Below w.heap.size w w' := by
  rw [← h]; exact lwTimes_any v v' l l' w ht ht'
end Go.Proofs.YtbdpcngcbnoioaaGreatDoor
namespace Go.Proofs.YtbdpcngcbnoioaaGreatDoor
open Go.RowKit
theorem implFrontOk_eq {l : List (Int × Int)} {r : Bool} (h : fokB l = r) {v : Value} {w : World} (ht : Ts w v l) : Calls Tryz.prog 80 #[v] w fun e w' => e = .returned (.bool r) ∧ Below w.heap.size w w' := by
  rw [← h]; exact implFrontOk_any v l w ht
end Go.Proofs.YtbdpcngcbnoioaaGreatDoor
namespace Go.Proofs.YtbdpcngcbnoioaaGreatDoor
open Go.RowKit
end Go.Proofs.YtbdpcngcbnoioaaGreatDoor
