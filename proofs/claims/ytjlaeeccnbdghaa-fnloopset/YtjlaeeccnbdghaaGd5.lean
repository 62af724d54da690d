/- Is an item among such: the contract. -/
import Derived.Test.YtjlaeeccnbdghaaGd3
namespace Go.Proofs.Ytjlaeeccnbdghaa
open Go.RowKit

set_option maxHeartbeats 4000000 in
theorem lwHas_in (v : Value) (l : List It) (K V D : Int) (w : World) (h : Is w v l) (hx : ((K, V), D) ∈ l) :
    Calls Try.prog 21 #[v, iv K V D] w fun e w' => e = .returned (.bool true) ∧ Below w.heap.size w w' := by
  obtain ⟨a, cap, rfl, hc, hm, hn, hcells⟩ := Is.open h
  unfold maxLen at hm
  have HC := (show Hid _ from hcells)
  have HX : Hid (∃ i : Nat, i < l.length ∧ l[i]? = some ((K, V), D)) := by
    obtain ⟨i, hi, e⟩ := List.getElem_of_mem hx
    exact ⟨i, hi, by rw [List.getElem?_eq_getElem hi, e]⟩
  clear hcells h hx
  have bk := Bk.new (w := w) #[.int .i64 K, .int .i64 V, .int .i64 D] 30 rfl
  have hb0 : Below w.heap.size w (w.alloc (.cells #[.int .i64 K, .int .i64 V, .int .i64 D] 30)) := bAlloc (Below.refl _ _) _
  go_enter Try.func21, Try.ntmps21
  go_wp2_with fail
  generalize hW : w.alloc (.cells #[.int .i64 K, .int .i64 V, .int .i64 D] 30) = wb at *
  clear hW
  go_loopw [5] (fun i wr => ∃ k : Nat, k ≤ l.length ∧ i = .int .i64 k ∧ (∀ j : Nat, j < k → l[j]? ≠ some ((K, V), D)) ∧ Below wb.heap.size wb wr) (fun i _ => l.length - (intOf i).toNat)
  case atStart => exact ⟨0, by omega, rfl, fun j hj => by omega, Below.refl _ _⟩
  case round =>
    obtain ⟨k, hk, rfl, hall, hb⟩ := hrel
    have HA : Hid (∀ j : Nat, j < k → l[j]? ≠ some ((K, V), D)) := hall
    clear hall
    have hbw := bStep hb0 hb
    obtain ⟨x0, x1, x2⟩ := (bk.keep hb).three
    by_cases hlt : k < l.length
    · obtain ⟨g, off, K', V', D', rfl, hg, hr, c0, c1, c2⟩ := HC.out k hlt
      have d0 := cell_below hbw c0
      have d1 := cell_below hbw c1
      have d2 := cell_below hbw c2
      have HY : Hid (((K', V'), D') ≠ ((K, V), D) → ∀ j : Nat, j < k + 1 → l[j]? ≠ some ((K, V), D)) := fun hne j hj => by
        by_cases e : j = k
        · subst e; rw [hr]; exact fun c => hne (Option.some.inj c)
        · exact HA.out j (by omega)
      clear c0 c1 c2 hr
      have ik : ((k : Int) < (l.length : Int)) := by omega
      by_cases h0 : K' = K
      · subst h0
        by_cases h1 : V' = V
        · subst h1
          by_cases h2 : D' = D
          · subst h2
            go_wp2_with fail
            go_quiet (fail)
            go_wp2_with fail
            go_ret
            exact ⟨rfl, bDrewN hbw _⟩
          · have nx : (D' == D) = false := beq_eq_false_iff_ne.2 h2
            go_wp2_with fail
            go_quiet (fail)
            go_wp2_with fail
            go_roundw
            case rel => exact ⟨k + 1, by omega, by go_num, HY.out (fun h => h2 (by simp at h; simp [h])), bDrewN hb _⟩
            case measure => simp [intOf]; omega
        · have nx : (V' == V) = false := beq_eq_false_iff_ne.2 h1
          go_wp2_with fail
          go_quiet (fail)
          go_wp2_with fail
          go_roundw
          case rel => exact ⟨k + 1, by omega, by go_num, HY.out (fun h => h1 (by simp at h; simp [h])), bDrewN hb _⟩
          case measure => simp [intOf]; omega
      · have nx : (K' == K) = false := beq_eq_false_iff_ne.2 h0
        go_wp2_with fail
        go_quiet (fail)
        go_wp2_with fail
        go_roundw
        case rel => exact ⟨k + 1, by omega, by go_num, HY.out (fun h => h0 (by simp at h; simp [h])), bDrewN hb _⟩
        case measure => simp [intOf]; omega
    · obtain ⟨i, hi, e⟩ := HX.out
      exact absurd e (HA.out i (by omega))
end Go.Proofs.Ytjlaeeccnbdghaa
