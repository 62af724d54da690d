/- What SetLess answers, of the program and of its model, and SetOnce of the program: contracts. -/
import Derived.Test.YtlddhfimiignaaaGt2
import Derived.Test.YtlddhfimiignaaaGs7
import Derived.Test.YtlddhfimiignaaaGb4
namespace Go.Proofs.Ytlddhfimiignaaa
open Go.RowKit

theorem negI_snoc {l : List It} {k : Nat} {s : Int × Int} {d : Int} (h : l[k]? = some (s, d)) : negI (l.take (k + 1)) = negI (l.take k) ++ [(s, -d)] := by
  unfold negI; rw [take_snoc h, List.map_append]; rfl
theorem once_yes {l : List It} {k : Nat} {s : Int × Int} {d : Int} (h : l[k]? = some (s, d)) (hd : 0 < d) : onceT (l.take (k + 1)) = onceT (l.take k) ++ [(s, 1)] := by
  unfold onceT; rw [take_snoc h, List.filter_append, List.map_append]; simp [hd]
theorem once_no {l : List It} {k : Nat} {s : Int × Int} {d : Int} (h : l[k]? = some (s, d)) (hd : ¬ 0 < d) : onceT (l.take (k + 1)) = onceT (l.take k) := by
  unfold onceT; rw [take_snoc h, List.filter_append, List.map_append]; simp [hd]
theorem sok_d {l : List It} (h : sokB l = true) {k : Nat} {s : Int × Int} {d : Int} (hr : l[k]? = some (s, d)) : -1099511627776 ≤ d ∧ d ≤ 1099511627776 := by
  have := it_parts (sok_at h (List.mem_of_getElem? hr)); exact ⟨this.2.2.2.2.2.1, this.2.2.2.2.2.2⟩
theorem sok_pos {l : List It} (h : sokB l = false) : 0 < l.length := by
  cases l with
  | nil => rw [sok_nil] at h; cases h
  | cons _ _ => simp
set_option maxRecDepth 100000 in
set_option maxHeartbeats 8000000 in
theorem implSetLess_any (v : Value) (l : List It) (w : World) (h : Is w v l) :
    Calls Try.prog 21 #[v] w fun e w' => ∃ o : Value, e = .returned o ∧ OwnI w' w.heap.size o (lessS l) ∧ Below w.heap.size w w' := by
  cases hk : sokB l
  · have HF : Hid (lessS l = []) := lessS_no hk
    go_enter Try.func21, Try.ntmps21
    go_wp2_with fail
    refine (implSetOk_eq hk h).mono ?_
    rintro e w1 ⟨rfl, hb1⟩
    go_wp2_with fail
    go_ret
    refine ⟨_, rfl, ?_, hb1⟩
    rw [HF.out]
    exact ownK_nil _ _ _ _ _
  have HF : Hid (lessS l = negI l) := lessS_yes hk
  have hl := sok_len hk
  have HD : Hid (∀ (k : Nat) (s : Int × Int) (d : Int), l[k]? = some (s, d) → -1099511627776 ≤ d ∧ d ≤ 1099511627776) := fun k s d hr => sok_d hk hr
  go_enter Try.func21, Try.ntmps21
  go_wp2_with fail
  refine (implSetOk_eq hk h).mono ?_
  rintro e w1 ⟨rfl, hb1⟩
  have hs1 := hb1.size
  obtain ⟨a, cap, rfl, hc, hm, hn, hcells⟩ := Is.open (h.keep hb1)
  unfold maxLen at hm
  have HC := (show Hid _ from hcells)
  clear hcells h hk
  go_wp2_with fail
  go_loopw [3, 11] (fun o i wr => ∃ k : Nat, k ≤ l.length ∧ i = .int .i64 k ∧ OwnI wr w1.heap.size o (negI (l.take k)) ∧ Below w1.heap.size w1 wr) (fun _ i _ => l.length - (intOf i).toNat)
  case atStart => exact ⟨0, by omega, rfl, ownK_nil _ _ _ _ _, Below.refl _ _⟩
  case round =>
    obtain ⟨k, hkl, rfl, hown, hb⟩ := hrel
    have HO : Hid (OwnI wr w1.heap.size u3 (negI (l.take k))) := hown
    clear hown
    have hsz := hb.size
    by_cases hlt : k < l.length
    · obtain ⟨g, off, K, V, D, rfl, hg, hr, c0, c1, c2⟩ := HC.out k hlt
      have HZ := (show Hid _ from negI_snoc hr)
      obtain ⟨hD1, hD2⟩ := HD.out k _ _ hr
      have iw : IntKind.i64.wrap (-D) = -D := by rw [IntKind.wrap_i64]; omega
      have d0 := cell_below hb c0
      have d1 := cell_below hb c1
      have d2 := cell_below hb c2
      have ik : ((k : Int) < (l.length : Int)) := by omega
      have hL : (negI (l.take k)).length ≤ 1000000 := by simp [negI]; omega
      have bx := Bk.new (w := wr) #[.int .i64 K, .int .i64 V, .int .i64 D] 34 rfl
      have hbx : Below w1.heap.size w1 (wr.alloc (.cells #[.int .i64 K, .int .i64 V, .int .i64 D] 34)) := bAlloc hb _
      have O1 : OwnI (wr.alloc (.cells #[.int .i64 K, .int .i64 V, .int .i64 D] 34)) w1.heap.size u3 (negI (l.take k)) := HO.out.alloc _
      have hsx := hbx.size
      clear c0 c1 c2 hr HO
      generalize negI (l.take k) = LL at *
      go_upto_region 7 with fail
      clear d0 d1 d2
      generalize wr.heap.size = tb at *
      generalize World.alloc _ _ = wx at *
      obtain ⟨q0, q1, q2⟩ := bx.three
      go_wp2_with (at_builtin; refine appI _ rfl _ _ rfl w1.heap.size _ LL rfl (O1.alloc _) _ K V (-D) rfl (Bk.new _ _ rfl) (by omega) (by simp; omega) ?_; intro g9 cap9 w9 own9 hgrow hlg)
      have hb9 : Below w1.heap.size w1 w9 := Below.grew (bAlloc hbx _) hgrow (by simp; omega) (ownK_base O1)
      exact ⟨⟨k + 1, by omega, by go_num, by rw [HZ.out]; exact own9, hb9⟩, by simp [intOf]; omega⟩
    · obtain rfl : k = l.length := by omega
      have O1 : Hid (OwnI wr w1.heap.size u3 (negI l)) := by have := HO.out; rw [List.take_length] at this; exact this
      clear HO
      go_wp2_with fail
      go_ret
      refine ⟨_, rfl, ?_, bStep hb1 hb⟩
      rw [HF.out]
      exact own_less O1.out hs1
end Go.Proofs.Ytlddhfimiignaaa
