import Derived.Test.YtbdpcngcbnoioaaGreatDoorGd1
import Derived.Test.YtbdpcngcbnoioaaGreatDoorGa8
import Derived.Test.YtbdpcngcbnoioaaGreatDoorGs2
import Derived.Test.YtbdpcngcbnoioaaGreatDoorGb1
import Derived.Test.YtbdpcngcbnoioaaGreatDoorGb0
import Derived.Test.YtbdpcngcbnoioaaGreatDoorGa5
import Derived.Test.YtbdpcngcbnoioaaGreatDoorGs7
import Derived.Deep.RegionHeld3
import Derived.Test.YtbdpcngcbnoioaaGreatDoorGs6
namespace Go.Proofs.YtbdpcngcbnoioaaGreatDoor
open Go.RowKit
theorem Rs.setNew {w : World} {v : Value} {l : List Rw} {B : Nat} {p : Addr} (h : OwnR w B v l) (hp : p.block < B) (u : Value) : OwnR (w.setCell p u) B v l :=
  own_move h fun k hk _ => Below.heap_setCell _ _ _ _ (by omega)
end Go.Proofs.YtbdpcngcbnoioaaGreatDoor
namespace Go.Proofs.YtbdpcngcbnoioaaGreatDoor
open Go.RowKit
theorem rows_eq {α : Type} {l l' : List α} (hn : l.length = l'.length) (h : ∀ j : Nat, j < l.length → l[j]? = l'[j]?) : l = l' := by
  apply List.ext_getElem?
  intro i
  by_cases hi : i < l.length
  · exact h i hi
  · rw [List.getElem?_eq_none (by omega), List.getElem?_eq_none (by omega)]
set_option maxHeartbeats 4000000 in
theorem lwRows_any (v v' : Value) (l l' : List Rw) (w : World) (h : Rs w v l) (h' : Rs w v' l') :
    Calls Tryz.prog 26 #[v, v'] w fun e w' => e = .returned (.bool (decide (l = l'))) ∧ Below w.heap.size w w' := by
  obtain ⟨a, cap, rfl, hc, hm, hn, hcells⟩ := Rs.open h
  obtain ⟨a', cap', rfl, hc', hm', hn', hcells'⟩ := Rs.open h'
  unfold maxLen at hm hm'
  have HC := (show Hid _ from hcells)
  have HC' := (show Hid _ from hcells')
  clear hcells hcells' h h'
  by_cases hlen : l.length = l'.length
  · have HE : Hid (l.length = l'.length) := hlen
    rw [← hlen] at hc' HC' ⊢
    clear hlen hn'
    go_enter Tryz.func26, Tryz.ntmps26
    go_wp2_with fail
    go_loopw [5] (fun i wr => ∃ k : Nat, k ≤ l.length ∧ i = .int .i64 k ∧ (∀ j : Nat, j < k → l[j]? = l'[j]?) ∧ Below w.heap.size w wr) (fun i _ => l.length - (intOf i).toNat)
    case atStart => exact ⟨0, by omega, rfl, fun j hj => by omega, Below.refl _ _⟩
    case round =>
      obtain ⟨k, hk, rfl, hall, hb⟩ := hrel
      have HA := (show Hid _ from hall)
      clear hall
      by_cases hlt : k < l.length
      · obtain ⟨g, off, K, V, A, B, D, rfl, hg, hr, c0, c1, c2, c3, c4⟩ := HC.out k hlt
        obtain ⟨g', off', K', V', A', B', D', rfl, hg', hr', p0, p1, p2, p3, p4⟩ := HC'.out k hlt
        have d0 := cell_below hb c0
        have d1 := cell_below hb c1
        have d2 := cell_below hb c2
        have d3 := cell_below hb c3
        have d4 := cell_below hb c4
        have e0 := cell_below hb p0
        have e1 := cell_below hb p1
        have e2 := cell_below hb p2
        have e3 := cell_below hb p3
        have e4 := cell_below hb p4
        clear c0 c1 c2 c3 c4 p0 p1 p2 p3 p4
        have HN : Hid ((((K, V), (A, B)), D) ≠ (((K', V'), (A', B')), D') → decide (l = l') = false) := fun h => decide_eq_false fun e => h (by rw [e, hr'] at hr; exact (Option.some.inj hr).symm)
        have HY : Hid ((((K, V), (A, B)), D) = (((K', V'), (A', B')), D') → ∀ j : Nat, j < k + 1 → l[j]? = l'[j]?) := fun h j hj => by
          by_cases e : j = k
          · subst e; rw [hr, hr', h]
          · exact HA.out j (by omega)
        clear hr hr'
        have ik : ((k : Int) < (l.length : Int)) := by omega
        by_cases h0 : K = K'
        · subst h0
          by_cases h1 : V = V'
          · subst h1
            by_cases h2 : A = A'
            · subst h2
              by_cases h3 : B = B'
              · subst h3
                by_cases h4 : D = D'
                · subst h4
                  go_wp2_with fail
                  go_quiet (fail)
                  go_wp2_with fail
                  go_roundw
                  case rel => exact ⟨k + 1, by omega, by go_num, HY.out (by simp), bDrewN hb _⟩
                  case measure => simp [intOf]; omega
                · have nx : (D == D') = false := beq_eq_false_iff_ne.2 h4
                  go_wp2_with fail
                  go_quiet (fail)
                  go_wp2_with fail
                  go_ret
                  exact ⟨ret_bool (HN.out (fun h => h4 (by simp at h; simp [h]))).symm, bDrewN hb _⟩
              · have nx : (B == B') = false := beq_eq_false_iff_ne.2 h3
                go_wp2_with fail
                go_quiet (fail)
                go_wp2_with fail
                go_ret
                exact ⟨ret_bool (HN.out (fun h => h3 (by simp at h; simp [h]))).symm, bDrewN hb _⟩
            · have nx : (A == A') = false := beq_eq_false_iff_ne.2 h2
              go_wp2_with fail
              go_quiet (fail)
              go_wp2_with fail
              go_ret
              exact ⟨ret_bool (HN.out (fun h => h2 (by simp at h; simp [h]))).symm, bDrewN hb _⟩
          · have nx : (V == V') = false := beq_eq_false_iff_ne.2 h1
            go_wp2_with fail
            go_quiet (fail)
            go_wp2_with fail
            go_ret
            exact ⟨ret_bool (HN.out (fun h => h1 (by simp at h; simp [h]))).symm, bDrewN hb _⟩
        · have nx : (K == K') = false := beq_eq_false_iff_ne.2 h0
          go_wp2_with fail
          go_quiet (fail)
          go_wp2_with fail
          go_ret
          exact ⟨ret_bool (HN.out (fun h => h0 (by simp at h; simp [h]))).symm, bDrewN hb _⟩
      · go_wp2_with fail
        go_ret
        exact ⟨ret_bool (decide_eq_true (rows_eq HE.out fun j hj => HA.out j (by omega))).symm, hb⟩
  · have hd : decide (l = l') = false := decide_eq_false fun e => hlen (by rw [e])
    rw [hd]
    have hne : ((l.length : Int) == (l'.length : Int)) = false := beq_eq_false_iff_ne.2 (by omega)
    generalize l.length = n at *
    generalize l'.length = n' at *
    go_enter Tryz.func26, Tryz.ntmps26
    go_wp2_with fail
    go_ret
    exact ⟨rfl, Below.refl _ _⟩
theorem lwRows_eq {l l' : List Rw} {r : Bool} (h : decide (l = l') = r) {v v' : Value} {w : World} (ht : Rs w v l) (ht' : Rs w v' l') :
    Calls Tryz.prog 26 #[v, v'] w fun e w' => e = .returned (.bool r) ∧ Below w.heap.size w w' := by
  rw [← h]; exact lwRows_any v v' l l' w ht ht'
end Go.Proofs.YtbdpcngcbnoioaaGreatDoor
namespace Go.Proofs.YtbdpcngcbnoioaaGreatDoor
open Go.RowKit
theorem implAt_k {l : List Rw} {x y : Int} {L : List It} (e : itemsL l x y = L) {v : Value} {w : World} (h : Rs w v l) :
    Calls Tryz.prog 41 #[v, tv x y] w fun e w' => ∃ o : Value, e = .returned o ∧ Is w' o L ∧ Below w.heap.size w w' := by
  subst e
  refine (implAt_any v l x y w h).mono ?_
  rintro e w' ⟨o, rfl, own, hb⟩
  exact ⟨o, rfl, OwnI.is own (by have := items_len l x y; omega), hb⟩
end Go.Proofs.YtbdpcngcbnoioaaGreatDoor
namespace Go.Proofs.YtbdpcngcbnoioaaGreatDoor
open Go.RowKit
end Go.Proofs.YtbdpcngcbnoioaaGreatDoor
namespace Go.Proofs.YtbdpcngcbnoioaaGreatDoor
open Go.RowKit
end Go.Proofs.YtbdpcngcbnoioaaGreatDoor
