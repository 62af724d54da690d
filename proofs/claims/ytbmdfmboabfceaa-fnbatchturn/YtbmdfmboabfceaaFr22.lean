/- What the laws' own functions on times answer, and the drawing of lists and of two fronts: contracts. -/
import Derived.Test.YtbmdfmboabfceaaFr11
import Derived.Test.YtbmdfmboabfceaaFr14
namespace Go.Proofs.Ytbmdfmboabfceaa
open Go.RowKit

theorem eq_at {l l' : List (Int × Int)} (hn : l.length = l'.length) (h : ∀ j, j < l.length → tA l j = tA l' j ∧ tB l j = tB l' j) : l = l' := by
  apply List.ext_getElem hn
  intro i h1 h2
  have := h i h1
  simp [tA, tB, h1, h2] at this
  exact Prod.ext this.1 this.2
theorem ne_at {l l' : List (Int × Int)} {j : Nat} (h : ¬ (tA l j = tA l' j ∧ tB l j = tB l' j)) : decide (l = l') = false :=
  decide_eq_false fun e => h (by subst e; exact ⟨rfl, rfl⟩)

set_option maxHeartbeats 4000000 in
theorem lwTimes_any (v v' : Value) (l l' : List (Int × Int)) (w : World) (h : Ts w v l) (h' : Ts w v' l') :
    Calls Try.prog 62 #[v, v'] w fun e w' => e = .returned (.bool (decide (l = l'))) ∧ Below w.heap.size w w' := by
  obtain ⟨a, cap, rfl, hc, hm, hn, hcells⟩ := h
  obtain ⟨a', cap', rfl, hc', hm', hn', hcells'⟩ := h'
  unfold maxLen at hm hm'
  have HC := (show Hid _ from hcells)
  have HC' := (show Hid _ from hcells')
  clear hcells hcells'
  by_cases hlen : l.length = l'.length
  · have HE : Hid (l.length = l'.length) := hlen
    rw [← hlen] at hc' HC' ⊢
    clear hlen hn'
    go_enter Try.func62, Try.ntmps62
    go_wp2_with fail
    go_loopw [5] (fun i wr => ∃ k : Nat, k ≤ l.length ∧ i = .int .i64 k ∧ (∀ j, j < k → tA l j = tA l' j ∧ tB l j = tB l' j) ∧ Below w.heap.size w wr) (fun i _ => l.length - (intOf i).toNat)
    case atStart => exact ⟨0, by omega, rfl, fun j hj => by omega, Below.refl _ _⟩
    case round =>
      obtain ⟨k, hk, rfl, hall, hb⟩ := hrel
      have HA := (show Hid _ from hall)
      clear hall
      by_cases hlt : k < l.length
      · obtain ⟨g, off, rfl, hg, c0, c1⟩ := HC.out k hlt
        obtain ⟨g', off', rfl, hg', p0, p1⟩ := HC'.out k hlt
        have d0 := cell_below hb c0
        have d1 := cell_below hb c1
        have e0 := cell_below hb p0
        have e1 := cell_below hb p1
        clear c0 c1 p0 p1
        have HN : Hid (¬ (tA l k = tA l' k ∧ tB l k = tB l' k) → decide (l = l') = false) := fun h => ne_at h
        have HY : Hid ((tA l k = tA l' k ∧ tB l k = tB l' k) → ∀ j, j < k + 1 → tA l j = tA l' j ∧ tB l j = tB l' j) := fun h j hj => by
          by_cases e : j = k
          · subst e; exact h
          · exact HA.out j (by omega)
        generalize tA l k = X at *
        generalize tB l k = Y at *
        generalize tA l' k = X' at *
        generalize tB l' k = Y' at *
        have ik : ((k : Int) < (l.length : Int)) := by omega
        by_cases hX : X = X'
        · by_cases hY : Y = Y'
          · subst hX hY
            go_wp2_with fail
            go_quiet (fail)
            go_wp2_with fail
            go_roundw
            case rel => exact ⟨k + 1, by omega, by go_num, HY.out (by simp), bDrewN hb _⟩
            case measure => simp [intOf]; omega
          · subst hX
            have ny : (Y == Y') = false := beq_eq_false_iff_ne.2 hY
            go_wp2_with fail
            go_quiet (fail)
            go_wp2_with fail
            go_ret
            exact ⟨ret_bool (HN.out (fun h => hY h.2)).symm, bDrewN hb _⟩
        · have nx : (X == X') = false := beq_eq_false_iff_ne.2 hX
          go_wp2_with fail
          go_quiet (fail)
          go_wp2_with fail
          go_ret
          exact ⟨ret_bool (HN.out (fun h => hX h.1)).symm, bDrewN hb _⟩
      · go_wp2_with fail
        go_ret
        exact ⟨ret_bool (decide_eq_true (eq_at HE.out fun j hj => HA.out j (by omega))).symm, hb⟩
  · have hd : decide (l = l') = false := decide_eq_false fun e => hlen (by rw [e])
    rw [hd]
    have hne : ((l.length : Int) == (l'.length : Int)) = false := beq_eq_false_iff_ne.2 (by omega)
    generalize l.length = n at *
    generalize l'.length = n' at *
    go_enter Try.func62, Try.ntmps62
    go_wp2_with fail
    go_ret
    exact ⟨rfl, Below.refl _ _⟩
theorem lwTimes_eq {l l' : List (Int × Int)} {r : Bool} (h : decide (l = l') = r) {v v' : Value} {w : World} (ht : Ts w v l) (ht' : Ts w v' l') :
    Calls Try.prog 62 #[v, v'] w fun e w' => e = .returned (.bool r) ∧ Below w.heap.size w w' := by
  rw [← h]; exact lwTimes_any v v' l l' w ht ht'

/-! ### The drawing. -/
end Go.Proofs.Ytbmdfmboabfceaa
