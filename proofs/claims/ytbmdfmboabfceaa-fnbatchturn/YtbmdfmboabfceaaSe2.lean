/- BatchMove of the model: the contract. -/
import Derived.Test.YtbmdfmboabfceaaSe
import Derived.Test.YtbmdfmboabfceaaFr12
namespace Go.Proofs.Ytbmdfmboabfceaa
open Go.RowKit

theorem move_snoc {l : List Rw} {f : List (Int × Int)} {k : Nat} {r : Rw} (h : l[k]? = some r) : moveL f (l.take (k + 1)) = moveL f (l.take k) ++ [mvR f r] := by
  unfold moveL; rw [take_snoc h, List.map_append]; rfl
set_option maxRecDepth 100000 in
set_option maxHeartbeats 4000000 in
theorem specMove2_any (v v' : Value) (l : List Rw) (f : List (Int × Int)) (w : World) (h : Rs w v l) (h' : Ts w v' f) :
    Calls Try.prog 57 #[v, v'] w fun e w' => ∃ o : Value, e = .returned o ∧ OwnR w' w.heap.size o (bmoveL l f) ∧ Below w.heap.size w w' := by
  have o0 := ownR_empty w rfl
  have hb0 := bAlloc (Below.refl w.heap.size w) (.cells #[] 33)
  cases hk : rokB l
  · have HF : Hid (bmoveL l f = []) := bmove_no1 hk
    go_enter Try.func57, Try.ntmps57
    go_wp2_with fail
    refine (specRowsOk_eq hk (h.keep hb0)).mono ?_
    rintro e w1 ⟨rfl, hb1⟩
    have O1 : Hid (OwnR w1 w.heap.size (.slice (some ⟨w.heap.size, 0, none⟩) 0 0) []) := own_keep o0 hb1
    clear o0
    go_wp2_with fail
    go_ret
    refine ⟨_, rfl, ?_, bStep hb0 hb1⟩
    rw [HF.out]
    exact O1.out
  cases hk' : fokB f
  · have HF : Hid (bmoveL l f = []) := bmove_no2 hk'
    go_enter Try.func57, Try.ntmps57
    go_wp2_with fail
    refine (specRowsOk_eq hk (h.keep hb0)).mono ?_
    rintro e w1 ⟨rfl, hb1⟩
    have hbw1 := bStep hb0 hb1
    have O1 : Hid (OwnR w1 w.heap.size (.slice (some ⟨w.heap.size, 0, none⟩) 0 0) []) := own_keep o0 hb1
    clear o0
    go_wp2_with fail
    refine (specFrontOk_eq hk' (h'.keep hbw1)).mono ?_
    rintro e w2 ⟨rfl, hb2⟩
    have O2 : Hid (OwnR w2 w.heap.size (.slice (some ⟨w.heap.size, 0, none⟩) 0 0) []) := own_keep O1.out hb2
    go_wp2_with fail
    go_ret
    refine ⟨_, rfl, ?_, bStep hbw1 hb2⟩
    rw [HF.out]
    exact O2.out
  have HF : Hid (bmoveL l f = fitL (sumL ltS (moveL f l))) := bmove_yes hk hk'
  have ha := rok_abs hk
  have hna := move_abs f l
  have hl := rok_len hk
  have hsl := sumL_len ltS (moveL f l)
  have hnl : (moveL f l).length = l.length := by simp [moveL]
  have HT : Hid (Ts w v' f) := h'
  obtain ⟨af, capf, rfl, -, -, -, -⟩ := h'
  go_enter Try.func57, Try.ntmps57
  go_wp2_with fail
  refine (specRowsOk_eq hk (h.keep hb0)).mono ?_
  rintro e w1 ⟨rfl, hb1⟩
  have hbw1 := bStep hb0 hb1
  have O1 : Hid (OwnR w1 w.heap.size (.slice (some ⟨w.heap.size, 0, none⟩) 0 0) []) := own_keep o0 hb1
  clear o0 hb1
  go_wp2_with fail
  refine (specFrontOk_eq hk' (HT.out.keep hbw1)).mono ?_
  rintro e w2 ⟨rfl, hb2⟩
  have O2 : Hid (OwnR w2 w.heap.size (.slice (some ⟨w.heap.size, 0, none⟩) 0 0) []) := own_keep O1.out hb2
  have hbw2 := bStep hbw1 hb2
  clear O1 hb0 hbw1 hb2
  obtain ⟨a, cap, rfl, hc, hm, hn, hcells⟩ := Rs.open h
  unfold maxLen at hm
  have HC := (show Hid _ from hcells)
  clear hcells h
  go_wp2_with fail
  go_loopw [5, 6] (fun o i wr => ∃ k : Nat, k ≤ l.length ∧ i = .int .i64 k ∧ OwnR wr w.heap.size o (moveL f (l.take k)) ∧ Below w.heap.size w wr) (fun _ i _ => l.length - (intOf i).toNat)
  case atStart => exact ⟨0, by omega, rfl, O2.out, hbw2⟩
  case round =>
    clear O2 hbw2
    obtain ⟨k, hkl, rfl, hown, hb⟩ := hrel
    have HO : Hid (OwnR wr w.heap.size u5 (moveL f (l.take k))) := hown
    clear hown
    by_cases hlt : k < l.length
    · obtain ⟨g, off, K, V, A, B, D, rfl, hg, hr, c0, c1, c2, c3, c4⟩ := HC.out k hlt
      obtain ⟨m1, m2, hmv⟩ : ∃ m1 m2, moveV f A B = (m1, m2) := ⟨_, _, rfl⟩
      have HZ : Hid (moveL f (l.take (k + 1)) = moveL f (l.take k) ++ [(((K, V), (m1, m2)), D)]) := by
        show _ = _
        rw [move_snoc hr]
        simp only [mvR, hmv]
      have d0 := cell_below hb c0
      have d1 := cell_below hb c1
      have d2 := cell_below hb c2
      have d3 := cell_below hb c3
      have d4 := cell_below hb c4
      have hL : (moveL f (l.take k)).length ≤ 400 := by simp [moveL]; omega
      have ik : ((k : Int) < (l.length : Int)) := by omega
      have bt0 := Bk.new (w := wr) #[.int .i64 K, .int .i64 V, .int .i64 A, .int .i64 B, .int .i64 D] 33 rfl
      have hbt : Below wr.heap.size wr (wr.alloc (.cells #[.int .i64 K, .int .i64 V, .int .i64 A, .int .i64 B, .int .i64 D] 33)) := bAlloc (Below.refl _ _) _
      have hb' := bStep hb hbt
      have O1 : Hid (OwnR (wr.alloc (.cells #[.int .i64 K, .int .i64 V, .int .i64 A, .int .i64 B, .int .i64 D] 33)) w.heap.size u5 (moveL f (l.take k))) := HO.out.alloc _
      have T1 := HT.out.keep hb'
      have hwr := hb.size
      have HBT : Hid (∀ q, u5.ownBlock = some q → q < wr.heap.size) := ownK_lt HO.out
      clear c0 c1 c2 c3 c4 hr HO hb hbt
      go_wp2_with fail
      generalize wr.heap.size = tb at *
      generalize World.alloc _ _ = wt at *
      refine (specFrontMove_eq hmv T1).mono ?_
      rintro e w3 ⟨rfl, hb3⟩
      have bt3 := bt0.keep hb3
      have hb4 := bStep hb' hb3
      have O3 : Hid (OwnR w3 w.heap.size u5 (moveL f (l.take k))) := own_keep O1.out hb3
      have f2 := bt3.free 2
      have f3 := (bt3.set 2 (.int .i64 m1)).free 3
      obtain ⟨y0, y1, y2, y3, y4⟩ := bt3.five
      have bt4 : Bk ((w3.setCell ⟨tb, 2, none⟩ (.int .i64 m1)).setCell ⟨tb, 3, none⟩ (.int .i64 m2)) tb #[.int .i64 K, .int .i64 V, .int .i64 m1, .int .i64 m2, .int .i64 D] 33 := (bt3.set 2 (.int .i64 m1)).set 3 (.int .i64 m2)
      have hb5 : Below w.heap.size w ((w3.setCell ⟨tb, 2, none⟩ (.int .i64 m1)).setCell ⟨tb, 3, none⟩ (.int .i64 m2)) := (hb4.setCell (by simp; omega) _).setCell (by simp; omega) _
      have O4 : OwnR ((w3.setCell ⟨tb, 2, none⟩ (.int .i64 m1)).setCell ⟨tb, 3, none⟩ (.int .i64 m2)) w.heap.size u5 (moveL f (l.take k)) := ownK_at O3.out fun q e => by
        have := HBT.out q e
        rw [Below.heap_setCell _ _ _ _ (by simp; omega), Below.heap_setCell _ _ _ _ (by simp; omega)]
      clear d0 d1 d2 d3 d4 O1 O3 bt0 T1 hb' hmv
      go_upto_region 9 with fail
      generalize ((w3.setCell ⟨tb, 2, none⟩ (.int .i64 m1)).setCell ⟨tb, 3, none⟩ (.int .i64 m2)) = w5 at *
      obtain ⟨z0, z1, z2, z3, z4⟩ := bt4.five
      have hs5 := hb5.size
      clear y0 y1 y2 y3 y4 f2 f3 bt3 hb3 hb4
      generalize moveL f (l.take k) = L at *
      go_wp2_with (at_builtin; refine appR _ rfl _ _ rfl w.heap.size _ _ rfl (O4.alloc _) _ _ _ _ _ _ rfl (Bk.new _ _ rfl) (by omega) (by simp; omega) ?_; intro g7 cap7 w7 own7 hgrow hlg)
      have hb7 : Below w.heap.size w w7 := Below.grew (bAlloc hb5 _) hgrow (by simp; omega) (ownK_base O4)
      go_roundw
      case rel =>
        refine ⟨k + 1, by omega, by go_num, ?_, hb7⟩
        rw [HZ.out]; exact own7
      case measure => simp [intOf]; omega
    · obtain rfl : k = l.length := by omega
      have O1 : Hid (OwnR wr w.heap.size u5 (moveL f l)) := by have := HO.out; rw [List.take_length] at this; exact this
      have R1 : Rs wr u5 (moveL f l) := OwnR.rs O1.out (by omega)
      have hs1 := hb.size
      clear HO
      go_wp2_with fail
      refine (l2Sum_any _ (moveL f l) _ R1 (by omega) (by omega)).mono ?_
      rintro e w2 ⟨o2, rfl, own2, hb2⟩
      have hs2 := hb2.size
      have hbw2 := bStep hb hb2
      have O2 : Hid (OwnR w2 wr.heap.size o2 (sumL ltS (moveL f l))) := own2
      clear own2 O1 R1
      go_wp2_with fail
      refine (l2Fit_any O2.out (by omega) (by omega)).mono ?_
      rintro e w3 ⟨o3, rfl, own3, hb3⟩
      have O3 : Hid (OwnR w3 wr.heap.size o3 (fitL (sumL ltS (moveL f l)))) := own3
      clear own3
      go_wp2_with fail
      go_ret
      refine ⟨_, rfl, ?_, bStep hbw2 hb3⟩
      rw [HF.out]
      exact own_less O3.out hs1
end Go.Proofs.Ytbmdfmboabfceaa
