/- slices.Equal at items: the contract. -/
import Derived.Test.YtjlaeeccnbdghaaGreatTo7
import Derived.Deep.RegionHeld3
namespace Go.Proofs.YtjlaeeccnbdghaaGreat
open Go.RowKit
attribute [local go_sem ↓] Go.wp_at_zero Go.wp_at_succ

set_option maxRecDepth 100000 in
set_option maxHeartbeats 8000000 in
theorem equalI_any (v u : Value) (l m : List It) (w : World) (h : Is w v l) (h' : Is w u m) :
    Calls Tryz.prog 40 #[v, u] w fun e w' => e = .returned (.bool (decide (l = m))) ∧ Below w.heap.size w w' := by
  obtain ⟨a, c, rfl, hc, hm, hn, hcell⟩ := Is.open h
  obtain ⟨a', c', rfl, hc', hm', hn', hcell'⟩ := Is.open h'
  unfold maxLen at hm hm'
  have HC := (show Hid _ from hcell)
  have HC' := (show Hid _ from hcell')
  clear hcell hcell' h h'
  by_cases hlen : l.length = m.length
  · have HLN : Hid (l.length = m.length) := hlen
    have hlb : ((l.length : Int) == (m.length : Int)) = true := by simp [hlen]
    have hlc : (l.length == m.length) = true := by simp [hlen]
    have hle : l.length ≤ m.length := by omega
    clear hlen
    go_enter Tryz.func40, Tryz.ntmps40
    go_wp2_with fail
    go_loopw [13] (fun i wr => ∃ k : Nat, k ≤ l.length ∧ i = .int .i64 k ∧ l.take k = m.take k ∧ Below w.heap.size w wr) (fun i _ => l.length - (intOf i).toNat)
    case atStart => exact ⟨0, by omega, rfl, by simp, Below.refl _ _⟩
    case round =>
      obtain ⟨k, hkl, rfl, htk, hb⟩ := hrel
      have HTK : Hid (l.take k = m.take k) := htk
      clear htk
      by_cases hlt : k < l.length
      · obtain ⟨g, off, K, V, D, rfl, hg, hr, c0, c1, c2⟩ := HC.out k hlt
        obtain ⟨g2, off2, K2, V2, D2, rfl, hg2, hr2, p0, p1, p2⟩ := HC'.out k (by omega)
        have ik : ((k : Int) < (l.length : Int)) := by omega
        have ik2 : ((k : Int) < (m.length : Int)) := by omega
        have d0 := cell_below hb c0
        have d1 := cell_below hb c1
        have d2 := cell_below hb c2
        have f0 := cell_below hb p0
        have f1 := cell_below hb p1
        have f2 := cell_below hb p2
        clear c0 c1 c2 p0 p1 p2
        by_cases hK : K = K2
        case neg =>
          have HNE : Hid (decide (l = m) = false) := decide_eq_false fun e => by rw [e, hr2] at hr; simp at hr; omega
          clear hr hr2
          go_wp2_with fail
          go_quiet (fail)
          have hbq : Below w.heap.size w (wr.drewN nq) := bDrewN hb _
          go_wp2_with fail
          go_ret
          exact ⟨by have h := HNE.out; simp_all, hbq⟩
        by_cases hV : V = V2
        case neg =>
          have HNE : Hid (decide (l = m) = false) := decide_eq_false fun e => by rw [e, hr2] at hr; simp at hr; omega
          clear hr hr2
          go_wp2_with fail
          go_quiet (fail)
          have hbq : Below w.heap.size w (wr.drewN nq) := bDrewN hb _
          go_wp2_with fail
          go_ret
          exact ⟨by have h := HNE.out; simp_all, hbq⟩
        by_cases hD : D = D2
        case neg =>
          have HNE : Hid (decide (l = m) = false) := decide_eq_false fun e => by rw [e, hr2] at hr; simp at hr; omega
          clear hr hr2
          go_wp2_with fail
          go_quiet (fail)
          have hbq : Below w.heap.size w (wr.drewN nq) := bDrewN hb _
          go_wp2_with fail
          go_ret
          exact ⟨by have h := HNE.out; simp_all, hbq⟩
        subst hK hV hD
        have HTN : Hid (l.take (k + 1) = m.take (k + 1)) := by show _ = _; rw [List.take_add_one, List.take_add_one, hr, hr2, HTK.out]
        clear hr hr2
        go_wp2_with fail
        go_quiet (fail)
        have hbq : Below w.heap.size w (wr.drewN nq) := bDrewN hb _
        go_wp2_with fail
        go_roundw
        case rel => exact ⟨k + 1, by omega, by go_num, HTN.out, hbq⟩
        case measure => simp [intOf]; omega
      · have HEQ : Hid (decide (l = m) = true) := decide_eq_true (by have h1 := HTK.out; have h2 := HLN.out; rw [List.take_of_length_le (by omega), List.take_of_length_le (by omega)] at h1; exact h1)
        have ik : ¬ ((k : Int) < (l.length : Int)) := by omega
        go_wp2_with fail
        go_ret
        exact ⟨by have h := HEQ.out; simp_all, hb⟩
  · have HNE : Hid (decide (l = m) = false) := decide_eq_false fun e => hlen (by rw [e])
    have hlb : ((l.length : Int) == (m.length : Int)) = false := beq_eq_false_iff_ne.2 (by omega)
    have hlc : (l.length == m.length) = false := beq_eq_false_iff_ne.2 hlen
    go_enter Tryz.func40, Tryz.ntmps40
    go_wp2_with fail
    go_ret
    exact ⟨by have h := HNE.out; simp_all, Below.refl _ _⟩
end Go.Proofs.YtjlaeeccnbdghaaGreat
