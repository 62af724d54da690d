/- Contracts of SetJoin and of FlowEach in the form in which the laws use them. -/
import Derived.Test.YtlddhfimiignaaaGk3
import Derived.Test.YtlddhfimiignaaaGj1
import Derived.Test.YtlddhfimiignaaaPj2
namespace Go.Proofs.Ytlddhfimiignaaa
open Go.RowKit

theorem joinS_len2 (s t : List It) : (joinS s t).length ≤ 160000 := by
  unfold joinS; split
  · rename_i h
    rw [Bool.and_eq_true] at h
    have h1 : s.length * t.length ≤ 400 * 400 := Nat.mul_le_mul (sok_len h.1) (sok_len h.2)
    have h2 := pair_len s t
    have h3 := sumL_len ltT (pairT s t)
    omega
  · simp
theorem implSetJoin_k {s t L : List It} (e : joinS s t = L) {v u : Value} {w : World} (h : Is w v s) (h' : Is w u t) (as' : absum s ≤ 600) (at' : absum t ≤ 600) : Calls Try.prog 16 #[v, u] w fun e w' => ∃ o : Value, e = .returned o ∧ Is w' o L ∧ Below w.heap.size w w' :=
  ofOwnI e (by have := joinS_len2 s t; omega) (implSetJoin_few v u s t w h h' as' at')
theorem specSetJoin_k {s t L : List It} (e : joinS s t = L) {v u : Value} {w : World} (h : Is w v s) (h' : Is w u t) (as' : absum s ≤ 600) (at' : absum t ≤ 600) : Calls Try.prog 18 #[v, u] w fun e w' => ∃ o : Value, e = .returned o ∧ Is w' o L ∧ Below w.heap.size w w' :=
  ofOwnI e (by have := joinS_len2 s t; omega) (specSetJoin_few v u s t w h h' as' at')
/-- Whether an item of a key is among such. -/
def keyB (l : List It) (k : Int) : Bool := l.any fun r => decide (r.1.1 = k)
set_option maxHeartbeats 4000000 in
theorem lwKey_yes {l : List It} {K : Int} (hK : ∃ x ∈ l, x.1.1 = K) {v : Value} {w : World} (h : Is w v l) :
    Calls Try.prog 22 #[v, .int .i64 K] w fun e w' => e = .returned (.bool true) ∧ Below w.heap.size w w' := by
  obtain ⟨a, cap, rfl, hc, hm, hn, hcells⟩ := Is.open h
  unfold maxLen at hm
  have HC := (show Hid _ from hcells)
  have HK := (show Hid (∃ x ∈ l, x.1.1 = K) from hK)
  clear hcells h hK
  go_enter Try.func22, Try.ntmps22
  go_wp2_with fail
  go_loopw [5] (fun i wr => ∃ k : Nat, k ≤ l.length ∧ i = .int .i64 k ∧ (∀ x ∈ l.take k, x.1.1 ≠ K) ∧ Below w.heap.size w wr) (fun i _ => l.length - (intOf i).toNat)
  case atStart => exact ⟨0, by omega, rfl, by simp, Below.refl _ _⟩
  case round =>
    obtain ⟨k, hkl, rfl, hno, hb⟩ := hrel
    have HNO := (show Hid (∀ x ∈ l.take k, x.1.1 ≠ K) from hno)
    clear hno
    by_cases hlt : k < l.length
    · obtain ⟨g, off, K2, V2, D2, rfl, hg, hr, c0, -, -⟩ := HC.out k hlt
      have ik : ((k : Int) < (l.length : Int)) := by omega
      have d0 := cell_below hb c0
      have HR := (show Hid _ from hr)
      clear hr c0
      by_cases hE : K2 = K
      · subst hE
        go_wp2_with fail
        go_ret
        exact ⟨rfl, hb⟩
      · have nx : (K2 == K) = false := beq_eq_false_iff_ne.2 hE
        go_wp2_with fail
        go_roundw
        case rel => exact ⟨k + 1, by omega, by go_num, fun x hx => by
          rw [take_snoc HR.out] at hx
          rcases List.mem_append.1 hx with hx | hx
          · exact HNO.out x hx
          · simp at hx; subst hx; exact hE, hb⟩
        case measure => simp [intOf]; omega
    · obtain rfl : k = l.length := by omega
      exfalso
      obtain ⟨x, hx, e⟩ := HK.out
      exact HNO.out x (by rw [List.take_length]; exact hx) e
end Go.Proofs.Ytlddhfimiignaaa
