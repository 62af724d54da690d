/- LoopOut, of the program and of the model: the contracts. -/
import Derived.Test.YtjlaeeccnbdghaaGs2
namespace Go.Proofs.Ytjlaeeccnbdghaa
open Go.RowKit Go.Shelf

def outR (n : Int) (l : List Rw) : List Rw := (l.filter fun r => decide (r.1.2.2 ≤ n)).map fun r => ((r.1.1, (r.1.2.1, (0 : Int))), r.2)
def loutL (l : List Rw) (n : Int) : List Rw := if rokB l then sumF (outR n l) else []
theorem lout_no {l : List Rw} {n : Int} (h : rokB l = false) : loutL l n = [] := by simp [loutL, h]
theorem lout_yes {l : List Rw} {n : Int} (h : rokB l = true) : loutL l n = sumF (outR n l) := by simp [loutL, h]
theorem lout_len (l : List Rw) (n : Int) : (loutL l n).length ≤ 400 := by
  unfold loutL; split
  · exact sumF_len4 _
  · simp
theorem outR_len (n : Int) (l : List Rw) : (outR n l).length ≤ l.length := by
  unfold outR; rw [List.length_map]; exact List.length_filter_le _ _
theorem outR_abs (n : Int) (l : List Rw) : absum (outR n l) ≤ absum l := by
  unfold outR
  induction l with
  | nil => simp [absum]
  | cons r l ih =>
    rw [List.filter_cons]
    split
    · simp only [List.map_cons, absum]; omega
    · simp only [absum]; omega
theorem outR_sp {n : Int} {l : List Rw} (h : rokB l = true) : ∀ r ∈ outR n l, spOk r.1 := fun r hr => by
  obtain ⟨q, hq, rfl⟩ := List.mem_map.1 hr
  obtain ⟨s1, s2, s3, _⟩ := rw_sp (rok_at h (List.mem_filter.1 hq).1)
  exact ⟨s1, s2, s3, by unfold fit63; simp⟩
theorem outR_yes {n : Int} {l : List Rw} {k : Nat} {K V A B D : Int} (h : l[k]? = some (((K, V), (A, B)), D)) (hb : B ≤ n) : outR n (l.take (k + 1)) = outR n (l.take k) ++ [(((K, V), (A, 0)), D)] := by
  unfold outR
  rw [List.take_add_one, h, List.filter_append, List.map_append]
  simp [hb]
theorem outR_no {n : Int} {l : List Rw} {k : Nat} {K V A B D : Int} (h : l[k]? = some (((K, V), (A, B)), D)) (hb : ¬ B ≤ n) : outR n (l.take (k + 1)) = outR n (l.take k) := by
  unfold outR
  rw [List.take_add_one, h, List.filter_append, List.map_append]
  simp [hb]
theorem outR_zero (n : Int) (l : List Rw) : outR n (l.take 0) = [] := by simp [outR]
set_option maxRecDepth 100000 in
set_option maxHeartbeats 8000000 in
theorem implLoopOut_any (v : Value) (l : List Rw) (n : Int) (w : World) (h : Rs w v l) :
    Calls Try.prog 23 #[v, .int .i64 n] w fun e w' => ∃ o : Value, e = .returned o ∧ OwnR w' w.heap.size o (loutL l n) ∧ Below w.heap.size w w' := by
  cases hk : rokB l
  · have HF : Hid (loutL l n = []) := lout_no hk
    go_enter Try.func23, Try.ntmps23
    go_wp2_with fail
    refine (implRowsOk_eq hk h).mono ?_
    rintro e w2 ⟨rfl, hb2⟩
    go_wp2_with fail
    go_ret
    refine ⟨_, rfl, ?_, hb2⟩
    rw [HF.out]
    exact ownK_nil _ _ _ _ _
  have HF : Hid (loutL l n = sumF (outR n l)) := lout_yes hk
  have hl := rok_len hk
  have HA : Hid (absum (outR n l) ≤ 99999 * 400) := Int.le_trans (outR_abs n l) (rok_abs hk)
  have HSP : Hid (∀ r ∈ outR n l, spOk r.1) := outR_sp hk
  go_enter Try.func23, Try.ntmps23
  go_wp2_with fail
  refine (implRowsOk_eq hk h).mono ?_
  rintro e w1 ⟨rfl, hb1⟩
  obtain ⟨a, cap, rfl, hc, hm, hn, hcells⟩ := Rs.open h
  unfold maxLen at hm
  have HC := (show Hid _ from hcells)
  clear hcells h hk
  go_wp2_with fail
  go_loopw [5, 13] (fun o i wr => ∃ k : Nat, k ≤ l.length ∧ i = .int .i64 k ∧ OwnR wr w.heap.size o (outR n (l.take k)) ∧ Below w.heap.size w wr) (fun _ i _ => l.length - (intOf i).toNat)
  case atStart => exact ⟨0, by omega, rfl, by rw [outR_zero]; exact ownK_nil rowC 5 78 w1 w.heap.size, hb1⟩
  case round =>
    clear hb1
    obtain ⟨k, hkl, rfl, hown, hb⟩ := hrel
    have HO : Hid (OwnR wr w.heap.size u5 (outR n (l.take k))) := hown
    have hel : (outR n (l.take k)).length ≤ 400 := by have := outR_len n (l.take k); simp at this; omega
    clear hown
    by_cases hlt : k < l.length
    · obtain ⟨g, off, K, V, A, B, D, rfl, hg, hr, c0, c1, c2, c3, c4⟩ := HC.out k hlt
      have d0 := cell_below hb c0
      have d1 := cell_below hb c1
      have d2 := cell_below hb c2
      have d3 := cell_below hb c3
      have d4 := cell_below hb c4
      have ik : ((k : Int) < (l.length : Int)) := by omega
      have bx := Bk.new (w := wr) #[.int .i64 K, .int .i64 V, .int .i64 A, .int .i64 B, .int .i64 D] 78 rfl
      have hbx0 : Below wr.heap.size wr (wr.alloc (.cells #[.int .i64 K, .int .i64 V, .int .i64 A, .int .i64 B, .int .i64 D] 78)) := bAlloc (Below.refl _ _) _
      have hbx := bStep hb hbx0
      have O1 : Hid (OwnR (wr.alloc (.cells #[.int .i64 K, .int .i64 V, .int .i64 A, .int .i64 B, .int .i64 D] 78)) w.heap.size u5 (outR n (l.take k))) := own_keep HO.out hbx0
      have HYES : Hid (B ≤ n → outR n (l.take (k + 1)) = outR n (l.take k) ++ [(((K, V), (A, 0)), D)]) := fun hp => outR_yes hr hp
      have HNO : Hid (¬ B ≤ n → outR n (l.take (k + 1)) = outR n (l.take k)) := fun hp => outR_no hr hp
      clear c0 c1 c2 c3 c4 hr hbx0 hb HO
      go_upto_region 7 with fail
      clear d0 d1 d2 d3 d4
      generalize wr.heap.size = tb at *
      generalize World.alloc _ _ = wx at *
      obtain ⟨q0, q1, q2, q3, q4⟩ := bx.five
      by_cases hp : B ≤ n
      · have HZ := (show Hid _ from HYES.out hp)
        have hsz := hbx.size
        have O4 := O1.out.alloc (.cells #[.int .i64 K, .int .i64 V, .int .i64 A, .int .i64 0, .int .i64 D] 78)
        clear O1 HYES HNO
        generalize hE : outR n (l.take k) = EL at *
        go_wp2_with (at_builtin; refine appR _ rfl _ _ rfl w.heap.size _ EL rfl O4 _ K V A 0 D rfl (Bk.new _ _ rfl) (by omega) (by simp; omega) ?_; intro g7 cap7 w7 own7 hgrow hlg)
        have hb7 : Below w.heap.size w w7 := Below.grew (bAlloc hbx _) hgrow (by simp; omega) (ownK_base O4)
        go_roundw
        case rel => exact ⟨k + 1, by omega, by go_num, by rw [HZ.out]; exact own7, hb7⟩
        case measure => simp [intOf]; omega
      · have HZ := (show Hid _ from HNO.out (by omega))
        go_wp2_with fail
        go_roundw
        case rel => exact ⟨k + 1, by omega, by go_num, (by rw [HZ.out]; exact O1.out), hbx⟩
        case measure => simp [intOf]; omega
    · obtain rfl : k = l.length := by omega
      rw [List.take_length] at HO hel
      have R1 : Rs wr u5 (outR n l) := OwnR.rs HO.out (by omega)
      have hsz := hb.size
      clear HO
      go_wp2_with fail
      refine (batchOf_any _ (outR n l) _ R1 (by omega) (by have := HA.out; omega) HSP.out).mono ?_
      rintro e w3 ⟨o3, rfl, own3, hb3⟩
      have O3 : Hid (OwnR w3 wr.heap.size o3 (sumF (outR n l))) := own3
      clear own3
      go_wp2_with fail
      go_ret
      refine ⟨_, rfl, ?_, bStep hb hb3⟩
      rw [HF.out]
      exact own_less O3.out hsz
set_option maxRecDepth 100000 in
set_option maxHeartbeats 8000000 in
theorem specLoopOut_any (v : Value) (l : List Rw) (n : Int) (w : World) (h : Rs w v l) :
    Calls Try.prog 25 #[v, .int .i64 n] w fun e w' => ∃ o : Value, e = .returned o ∧ OwnR w' w.heap.size o (loutL l n) ∧ Below w.heap.size w w' := by
  have o0 := ownR_empty w rfl
  have hb0 := bAlloc (Below.refl w.heap.size w) (.cells #[] 78)
  have HR := (show Hid (Rs w v l) from h)
  obtain ⟨a, cap, rfl, hc, hm, hn, hcells⟩ := Rs.open h
  unfold maxLen at hm
  have HC := (show Hid _ from hcells)
  clear hcells h
  cases hk : rokB l
  · have HF : Hid (loutL l n = []) := lout_no hk
    have hpos : 0 < l.length := by
      rcases Nat.eq_zero_or_pos l.length with h0 | h0
      · rw [List.eq_nil_of_length_eq_zero h0] at hk; cases hk
      · exact h0
    go_enter Try.func25, Try.ntmps25
    go_wp2_with fail
    go_loopw [5, 6] (fun o i wr => i = .int .i64 0 ∧ OwnR wr w.heap.size o [] ∧ Below w.heap.size w wr) (fun _ _ _ => 0)
    case atStart => exact ⟨rfl, o0, hb0⟩
    case round =>
      clear o0 hb0
      obtain ⟨rfl, hown, hb⟩ := hrel
      have HO : Hid (OwnR wr w.heap.size u5 []) := hown
      have ik : ((0 : Int) < (l.length : Int)) := by omega
      clear hown
      go_wp2_with fail
      refine (specRowsOk_eq hk (HR.out.keep hb)).mono ?_
      rintro e w1 ⟨rfl, hb1⟩
      have O1 : Hid (OwnR w1 w.heap.size u5 []) := own_keep HO.out hb1
      have hbw1 := bStep hb hb1
      have R1 : Rs w1 u5 [] := OwnR.rs O1.out (by simp)
      have hs1 := hbw1.size
      clear HO hb1 hb
      go_wp2_with fail
      refine (l2Sum_any _ [] _ R1 (by simp) (by simp [absum])).mono ?_
      rintro e w2 ⟨o2, rfl, own2, hb2⟩
      have hs2 := hb2.size
      have hbw2 := bStep hbw1 hb2
      have O2 : Hid (OwnR w2 w1.heap.size o2 (sumL ltS [])) := own2
      clear own2 O1 R1
      go_wp2_with fail
      refine (l2Fit_any O2.out (by simp [sumL, sumA]) hs2).mono ?_
      rintro e w3 ⟨o3, rfl, own3, hb3⟩
      have O3 : Hid (OwnR w3 w1.heap.size o3 (fitL (sumL ltS []))) := own3
      clear own3
      go_wp2_with fail
      go_ret
      refine ⟨_, rfl, ?_, bStep hbw2 hb3⟩
      rw [HF.out]
      exact own_less O3.out hs1
  have HF : Hid (loutL l n = fitL (sumL ltS (outR n l))) := lout_yes hk
  have hl := rok_len hk
  have hol := outR_len n l
  have hsl := sumL_len ltS (outR n l)
  have HA : Hid (absum (outR n l) ≤ 99999 * 400) := Int.le_trans (outR_abs n l) (rok_abs hk)
  go_enter Try.func25, Try.ntmps25
  go_wp2_with fail
  go_loopw [5, 6] (fun o i wr => ∃ k : Nat, k ≤ l.length ∧ i = .int .i64 k ∧ OwnR wr w.heap.size o (outR n (l.take k)) ∧ Below w.heap.size w wr) (fun _ i _ => l.length - (intOf i).toNat)
  case atStart => exact ⟨0, by omega, rfl, by rw [outR_zero]; exact o0, hb0⟩
  case round =>
    clear o0 hb0
    obtain ⟨k, hkl, rfl, hown, hb⟩ := hrel
    have HO : Hid (OwnR wr w.heap.size u5 (outR n (l.take k))) := hown
    have hel : (outR n (l.take k)).length ≤ 400 := by have := outR_len n (l.take k); simp at this; omega
    clear hown
    by_cases hlt : k < l.length
    · obtain ⟨g, off, K, V, A, B, D, rfl, hg, hr, c0, c1, c2, c3, c4⟩ := HC.out k hlt
      have ik : ((k : Int) < (l.length : Int)) := by omega
      have HYES : Hid (B ≤ n → outR n (l.take (k + 1)) = outR n (l.take k) ++ [(((K, V), (A, 0)), D)]) := fun hp => outR_yes hr hp
      have HNO : Hid (¬ B ≤ n → outR n (l.take (k + 1)) = outR n (l.take k)) := fun hp => outR_no hr hp
      go_wp2_with fail
      refine (specRowsOk_eq hk (HR.out.keep hb)).mono ?_
      rintro e w1 ⟨rfl, hb1⟩
      have hbw1 := bStep hb hb1
      have O1 : Hid (OwnR w1 w.heap.size u5 (outR n (l.take k))) := own_keep HO.out hb1
      have d0 := cell_below hbw1 c0
      have d1 := cell_below hbw1 c1
      have d2 := cell_below hbw1 c2
      have d3 := cell_below hbw1 c3
      have d4 := cell_below hbw1 c4
      clear c0 c1 c2 c3 c4 hr HO hb hb1
      by_cases hp : B ≤ n
      · have HZ := (show Hid _ from HYES.out hp)
        have bt0 := Bk.new (w := w1) #[.int .i64 K, .int .i64 V, .int .i64 A, .int .i64 B, .int .i64 D] 78 rfl
        have hbt : Below w1.heap.size w1 (w1.alloc (.cells #[.int .i64 K, .int .i64 V, .int .i64 A, .int .i64 B, .int .i64 D] 78)) := bAlloc (Below.refl _ _) _
        have hb' := bStep hbw1 hbt
        have O2 : Hid (OwnR (w1.alloc (.cells #[.int .i64 K, .int .i64 V, .int .i64 A, .int .i64 B, .int .i64 D] 78)) w.heap.size u5 (outR n (l.take k))) := O1.out.alloc _
        have hwr := hbw1.size
        have HBT : Hid (∀ q, u5.ownBlock = some q → q < w1.heap.size) := ownK_lt O1.out
        clear HYES HNO hbt O1
        go_upto_region 7 with fail
        clear d0 d1 d2 d3 d4 hbw1
        generalize w1.heap.size = tb at *
        generalize World.alloc _ _ = wt at *
        have f3 := bt0.free 3
        obtain ⟨y0, y1, y2, y3, y4⟩ := bt0.five
        have bt4 : Bk (wt.setCell ⟨tb, 3, none⟩ (.int .i64 0)) tb #[.int .i64 K, .int .i64 V, .int .i64 A, .int .i64 0, .int .i64 D] 78 := bt0.set 3 (.int .i64 0)
        have hb5 : Below w.heap.size w (wt.setCell ⟨tb, 3, none⟩ (.int .i64 0)) := hb'.setCell (by simp; omega) _
        have O4 : OwnR (wt.setCell ⟨tb, 3, none⟩ (.int .i64 0)) w.heap.size u5 (outR n (l.take k)) := ownK_at O2.out fun q e => by
          have := HBT.out q e
          rw [Below.heap_setCell _ _ _ _ (by simp; omega)]
        clear O2 bt0 hb'
        go_upto_region 8 with fail
        generalize (wt.setCell ⟨tb, 3, none⟩ (.int .i64 0)) = w5 at *
        obtain ⟨z0, z1, z2, z3, z4⟩ := bt4.five
        have hs5 := hb5.size
        clear y0 y1 y2 y3 y4 f3
        generalize outR n (l.take k) = EL at *
        go_wp2_with (at_builtin; refine appR _ rfl _ _ rfl w.heap.size _ _ rfl (O4.alloc _) _ _ _ _ _ _ rfl (Bk.new _ _ rfl) (by omega) (by simp; omega) ?_; intro g7 cap7 w7 own7 hgrow hlg)
        have hb7 : Below w.heap.size w w7 := Below.grew (bAlloc hb5 _) hgrow (by simp; omega) (ownK_base O4)
        go_roundw
        case rel =>
          refine ⟨k + 1, by omega, by go_num, ?_, hb7⟩
          rw [HZ.out]; exact own7
        case measure => simp [intOf]; omega
      · have HZ := (show Hid _ from HNO.out (by omega))
        go_wp2_with fail
        go_roundw
        case rel => exact ⟨k + 1, by omega, by go_num, (by rw [HZ.out]; exact O1.out), hbw1⟩
        case measure => simp [intOf]; omega
    · obtain rfl : k = l.length := by omega
      have O1 : Hid (OwnR wr w.heap.size u5 (outR n l)) := by have := HO.out; rw [List.take_length] at this; exact this
      have R1 : Rs wr u5 (outR n l) := OwnR.rs O1.out (by omega)
      have hs1 := hb.size
      clear HO
      go_wp2_with fail
      refine (l2Sum_any _ (outR n l) _ R1 (by omega) (by have := HA.out; omega)).mono ?_
      rintro e w2 ⟨o2, rfl, own2, hb2⟩
      have hs2 := hb2.size
      have hbw2 := bStep hb hb2
      have O2 : Hid (OwnR w2 wr.heap.size o2 (sumL ltS (outR n l))) := own2
      clear own2 O1 R1
      go_wp2_with fail
      refine (l2Fit_any O2.out (by omega) (by omega)).mono ?_
      rintro e w3 ⟨o3, rfl, own3, hb3⟩
      have O3 : Hid (OwnR w3 wr.heap.size o3 (fitL (sumL ltS (outR n l)))) := own3
      clear own3
      go_wp2_with fail
      go_ret
      refine ⟨_, rfl, ?_, bStep hbw2 hb3⟩
      rw [HF.out]
      exact own_less O3.out hs1
end Go.Proofs.Ytjlaeeccnbdghaa
