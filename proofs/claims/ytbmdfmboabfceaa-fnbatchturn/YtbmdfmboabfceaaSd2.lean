/- What BatchLess of the model answers: the contract. -/
import Derived.Test.YtbmdfmboabfceaaSd
namespace Go.Proofs.Ytbmdfmboabfceaa
open Go.RowKit

theorem neg_snoc {l : List Rw} {k : Nat} {s : Sp} {d : Int} (h : l[k]? = some (s, d)) : negL (l.take (k + 1)) = negL (l.take k) ++ [(s, -d)] := by
  unfold negL; rw [take_snoc h, List.map_append]; rfl
theorem sumF_nil : sumF [] = [] := by unfold sumF sumL sumA; exact fit_eq bok_nil
set_option maxHeartbeats 4000000 in
theorem specLess2_any (v : Value) (l : List Rw) (w : World) (h : Rs w v l) :
    Calls Try.prog 53 #[v] w fun e w' => ∃ o : Value, e = .returned o ∧ OwnR w' w.heap.size o (lessL l) ∧ Below w.heap.size w w' := by
  have o0 := ownR_empty w rfl
  have hb0 := bAlloc (Below.refl w.heap.size w) (.cells #[] 33)
  -- what follows the loop
  have fin : ∀ (W : World) (o : Value) (L : List Rw), OwnR W w.heap.size o L → L.length ≤ 400 → absum L ≤ 99999 * 400 → Below w.heap.size w W →
      Calls Try.prog 102 #[o] W fun e w' => ∃ o' : Value, e = .returned o' ∧ OwnR w' w.heap.size o' (sumL ltS L) ∧ Below w.heap.size w w' := fun W o L hO hL hA hB => by
    refine (l2Sum_any o L W (OwnR.rs hO (by omega)) (by omega) (by omega)).mono ?_
    rintro e w' ⟨o', he, h1, h2⟩
    exact ⟨o', he, own_less h1 hB.size, bStep hB h2⟩
  have FIN : Hid _ := fin
  clear fin
  cases hk : rokB l
  · have HF : Hid (lessL l = []) := less_no hk
    have HS : Hid (fitL (sumL ltS []) = []) := sumF_nil
    obtain ⟨a, cap, hv, _, _, _, _⟩ := Rs.open h
    have HV : Hid _ := hv
    by_cases hz : l.length = 0
    · subst hv
      generalize l.length = n at *
      subst hz
      go_enter Try.func53, Try.ntmps53
      go_wp2_with fail
      refine wp_loop_rounds 1 ?_
      rw [rounds_succ]
      go_wp2_with fail
      refine (FIN.out _ _ [] o0 (by simp) (by simp [absum]) hb0).mono ?_
      rintro e w2 ⟨o2, rfl, own2, hb2⟩
      have hs2 := hb2.size
      have O2 : Hid (OwnR w2 w.heap.size o2 (sumL ltS [])) := own2
      clear own2
      go_wp2_with fail
      refine (l2Fit_any O2.out (by simp [sumL, sumA]) hs2).mono ?_
      rintro e w3 ⟨o3, rfl, own3, hb3⟩
      have O3 : Hid (OwnR w3 w.heap.size o3 (fitL (sumL ltS []))) := own3
      clear own3
      go_wp2_with fail
      go_ret
      refine ⟨_, rfl, ?_, bStep hb2 hb3⟩
      rw [HF.out, ← HS.out]
      exact O3.out
    · have h1 := h.keep hb0
      have hpos : decide ((0 : Int) < (l.length : Int)) = true := by simp; omega
      subst hv
      have HH : Hid (Rs (w.alloc (.cells #[] 33)) (.slice a l.length cap) l) := h1
      generalize hn : l.length = n at *
      go_enter Try.func53, Try.ntmps53
      go_wp2_with fail
      refine wp_loop_rounds 1 ?_
      rw [rounds_succ]
      go_wp2_with fail
      refine (specRowsOk_eq hk HH.out).mono ?_
      rintro e w1 ⟨rfl, hb1⟩
      have hbw1 := bStep hb0 hb1
      have o1 := own_keep o0 hb1
      go_wp2_with fail
      refine (FIN.out _ _ [] o1 (by simp) (by simp [absum]) hbw1).mono ?_
      rintro e w2 ⟨o2, rfl, own2, hb2⟩
      have hs2 := hb2.size
      have O2 : Hid (OwnR w2 w.heap.size o2 (sumL ltS [])) := own2
      clear own2
      go_wp2_with fail
      refine (l2Fit_any O2.out (by simp [sumL, sumA]) hs2).mono ?_
      rintro e w3 ⟨o3, rfl, own3, hb3⟩
      have O3 : Hid (OwnR w3 w.heap.size o3 (fitL (sumL ltS []))) := own3
      clear own3
      go_wp2_with fail
      go_ret
      refine ⟨_, rfl, ?_, bStep hb2 hb3⟩
      rw [HF.out, ← HS.out]
      exact O3.out
  have HF : Hid (lessL l = fitL (sumL ltS (negL l))) := less_yes hk
  have ha := rok_abs hk
  have hna := neg_abs l
  have hl := rok_len hk
  have hsl := sumL_len ltS (negL l)
  have hnl : (negL l).length = l.length := by simp [negL]
  have HB : Hid (∀ i s d, l[i]? = some (s, d) → -99999 ≤ d ∧ d ≤ 99999) := fun i s d hi => rw_diff (rok_at hk (List.mem_of_getElem? hi))
  have HH : Hid (Rs w v l) := h
  obtain ⟨a, cap, rfl, hc, hm, hn, hcells⟩ := Rs.open h
  unfold maxLen at hm
  have HC := (show Hid _ from hcells)
  clear hcells h
  go_enter Try.func53, Try.ntmps53
  go_wp2_with fail
  go_loopw [3, 4] (fun o i wr => ∃ k : Nat, k ≤ l.length ∧ i = .int .i64 k ∧ OwnR wr w.heap.size o (negL (l.take k)) ∧ Below w.heap.size w wr) (fun _ i _ => l.length - (intOf i).toNat)
  case atStart => exact ⟨0, by omega, rfl, o0, hb0⟩
  case round =>
    clear o0 hb0
    obtain ⟨k, hkl, rfl, hown, hb⟩ := hrel
    have HO : Hid (OwnR wr w.heap.size u3 (negL (l.take k))) := hown
    clear hown
    by_cases hlt : k < l.length
    · obtain ⟨g, off, K, V, A, B, D, rfl, hg, hr, c0, c1, c2, c3, c4⟩ := HC.out k hlt
      obtain ⟨hd1, hd2⟩ := HB.out _ _ _ hr
      have HZ := (show Hid _ from neg_snoc hr)
      have HX : Hid (∀ W, Below w.heap.size w W → W.cell? ⟨g, off + k * 5, none⟩ = some (.int .i64 K) ∧ W.cell? ⟨g, off + k * 5 + 1, none⟩ = some (.int .i64 V) ∧ W.cell? ⟨g, off + k * 5 + 2, none⟩ = some (.int .i64 A) ∧ W.cell? ⟨g, off + k * 5 + 3, none⟩ = some (.int .i64 B) ∧ W.cell? ⟨g, off + k * 5 + 4, none⟩ = some (.int .i64 D)) :=
        fun W hW => ⟨cell_below hW c0, cell_below hW c1, cell_below hW c2, cell_below hW c3, cell_below hW c4⟩
      have hL : (negL (l.take k)).length ≤ 400 := by simp [negL]; omega
      have R := HH.out.keep hb
      have ik : decide ((k : Int) < (l.length : Int)) = true := by simp; omega
      clear c0 c1 c2 c3 c4 hr
      go_wp2_with fail
      refine (specRowsOk_eq hk R).mono ?_
      rintro e w1 ⟨rfl, hb1⟩
      have hbw1 := bStep hb hb1
      obtain ⟨x0, x1, x2, x3, x4⟩ := HX.out w1 hbw1
      have O1 : OwnR w1 w.heap.size u3 (negL (l.take k)) := own_keep HO.out hb1
      have hs1 := hbw1.size
      clear HO R hb hb1
      generalize negL (l.take k) = L at *
      go_wp2_with (at_builtin; refine appR _ rfl _ _ rfl w.heap.size _ _ rfl ((O1.alloc _).alloc _) _ _ _ _ _ _ rfl (Bk.new _ _ (by simp)) (by omega) (by simp; omega) ?_; intro g3 cap3 w3 own3 hgrow hlg)
      have hb3 : Below w.heap.size w w3 := Below.grew (bAlloc (bAlloc hbw1 _) _) hgrow (by simp; omega) (ownK_base O1)
      go_roundw
      case rel =>
        refine ⟨k + 1, by omega, by go_num, ?_, hb3⟩
        rw [HZ.out]; exact own3
      case measure => simp [intOf]; omega
    · obtain rfl : k = l.length := by omega
      have O1 : Hid (OwnR wr w.heap.size u3 (negL l)) := by have := HO.out; rw [List.take_length] at this; exact this
      clear HO
      go_wp2_with fail
      refine (FIN.out _ _ (negL l) O1.out (by omega) (by omega) hb).mono ?_
      rintro e w2 ⟨o2, rfl, own2, hb2⟩
      have hs2 := hb2.size
      have O2 : Hid (OwnR w2 w.heap.size o2 (sumL ltS (negL l))) := own2
      clear own2 O1
      go_wp2_with fail
      refine (l2Fit_any O2.out (by omega) hs2).mono ?_
      rintro e w3 ⟨o3, rfl, own3, hb3⟩
      have O3 : Hid (OwnR w3 w.heap.size o3 (fitL (sumL ltS (negL l)))) := own3
      clear own3
      go_wp2_with fail
      go_ret
      refine ⟨_, rfl, ?_, bStep hb2 hb3⟩
      rw [HF.out]
      exact O3.out
end Go.Proofs.Ytbmdfmboabfceaa
