/- What the model's summing up of rows answers, and BatchOf: contracts. -/
import Derived.Test.YtbmdfmboabfceaaBa11
namespace Go.Proofs.Ytbmdfmboabfceaa
open Go.RowKit

theorem absum_take {K : Type} (l : List (K × Int)) (k : Nat) : absum (l.take k) ≤ absum l := by
  have := absum_append (l.take k) (l.drop k)
  rw [List.take_append_drop] at this
  have := absum_pos (l.drop k)
  omega
/-- What comes together in putting the next row in is not too great. -/
theorem sum_next {l : List Rw} {k : Nat} {r : Rw} (hr : l[k]? = some r) (ha : absum l ≤ 2305843009213693952) : ∀ x ∈ sumA ltS (l.take k), x.1 = r.1 → -4611686018427387904 ≤ r.2 + x.2 ∧ r.2 + x.2 ≤ 4611686018427387904 := by
  intro x hx e
  have h1 := srt_tot ltS_ord (sumA_srt ltS_ord _) hx
  rw [sumA_tot ltS_ord] at h1
  have h2 := tot_abs (l.take (k + 1)) r.1
  rw [take_snoc hr, tot_snoc, if_pos rfl] at h2
  have h3 := absum_take l (k + 1)
  rw [take_snoc hr] at h3
  rw [e] at h1
  omega
theorem nz_yes {l : List Rw} {k : Nat} {r : Rw} (hr : l[k]? = some r) (h : r.2 ≠ 0) : (l.take (k + 1)).filter (fun r => decide (r.2 ≠ 0)) = (l.take k).filter (fun r => decide (r.2 ≠ 0)) ++ [r] := by
  rw [take_snoc hr, List.filter_append]; simp [h]
theorem nz_no {l : List Rw} {k : Nat} {r : Rw} (hr : l[k]? = some r) (h : r.2 = 0) : (l.take (k + 1)).filter (fun r => decide (r.2 ≠ 0)) = (l.take k).filter (fun r => decide (r.2 ≠ 0)) := by
  rw [take_snoc hr, List.filter_append]; simp [h]

set_option maxRecDepth 100000 in
set_option maxHeartbeats 8000000 in
theorem l2Sum_any (v : Value) (l : List Rw) (w : World) (h : Rs w v l) (hl : l.length ≤ 1000000) (ha : absum l ≤ 2305843009213693952) :
    Calls Try.prog 102 #[v] w fun e w' => ∃ o : Value, e = .returned o ∧ OwnR w' w.heap.size o (sumL ltS l) ∧ Below w.heap.size w w' := by
  have o0 := ownR_empty w rfl
  have hb0 := bAlloc (Below.refl w.heap.size w) (.cells #[] 33)
  have HA : Hid _ := ha
  obtain ⟨a, cap, rfl, hc, hm, hn, hcells⟩ := Rs.open h
  unfold maxLen at hm
  have HC := (show Hid _ from hcells)
  clear hcells h ha
  go_enter Try.func102, Try.ntmps102
  go_wp2_with fail
  go_loopw [3, 4] (fun o i wr => ∃ k : Nat, k ≤ l.length ∧ i = .int .i64 k ∧ OwnR wr w.heap.size o (sumA ltS (l.take k)) ∧ Below w.heap.size w wr) (fun _ i _ => l.length - (intOf i).toNat)
  case atStart => exact ⟨0, by omega, rfl, o0, hb0⟩
  case round =>
    clear o0 hb0
    obtain ⟨k, hk, rfl, hown, hb⟩ := hrel
    have HO : Hid (OwnR wr w.heap.size u3 (sumA ltS (l.take k))) := hown
    have hL := sumA_len ltS (l.take k)
    have hL2 : (l.take k).length ≤ k := List.length_take_le _ _
    clear hown
    by_cases hlt : k < l.length
    · obtain ⟨g, off, K, V, A, B, D, rfl, hg, hr, c0, c1, c2, c3, c4⟩ := HC.out k hlt
      have d0 := cell_below hb c0
      have d1 := cell_below hb c1
      have d2 := cell_below hb c2
      have d3 := cell_below hb c3
      have d4 := cell_below hb c4
      have HN := (show Hid _ from sum_next hr HA.out)
      have HS : Hid (sumA ltS (l.take (k + 1)) = putL ltS (((K, V), (A, B)), D) (sumA ltS (l.take k))) := by show _ = _; rw [take_snoc hr, sumA_snoc]
      have RS : Rs wr u3 (sumA ltS (l.take k)) := OwnR.rs HO.out (by omega)
      have hz := hb.size
      clear c0 c1 c2 c3 c4 hr
      go_wp2_with fail
      refine (l2Put_any _ _ _ _ _ _ _ _ RS (by omega) HN.out).mono ?_
      rintro e w1 ⟨o1, rfl, own1, hb1⟩
      have hbw := bStep hb hb1
      have own2 := own_less own1 hz
      rw [← HS.out] at own2
      clear own1 HO RS HN HS
      go_wp2_with fail
      go_roundw
      case rel => exact ⟨k + 1, by omega, by go_num, own2, hbw⟩
      case measure => simp [intOf]; omega
    · obtain rfl : k = l.length := by omega
      have hO : OwnR wr w.heap.size u3 (sumA ltS l) := by have := HO.out; rwa [List.take_length] at this
      rw [List.take_length] at hL
      clear HO
      have RS : Rs wr u3 (sumA ltS l) := OwnR.rs hO (by omega)
      clear hO HC
      obtain ⟨W, hW⟩ : ∃ W, W = wr := ⟨_, rfl⟩
      subst hW
      have HF : Hid (sumL ltS l = (sumA ltS l).filter fun r => decide (r.2 ≠ 0)) := rfl
      generalize sumA ltS l = M at *
      obtain ⟨a', cap', rfl, hc', hm', hn', hcells'⟩ := Rs.open RS
      unfold maxLen at hm'
      have HC := (show Hid _ from hcells')
      clear hcells' RS hL2
      have o0 := ownR_empty W rfl
      have hb0 := bAlloc (Below.refl W.heap.size W) (.cells #[] 33)
      have hbS := hb.size
      go_wp2_with fail
      go_loopw [5, 6] (fun o i wr => ∃ k : Nat, k ≤ M.length ∧ i = .int .i64 k ∧ OwnR wr W.heap.size o ((M.take k).filter fun r => decide (r.2 ≠ 0)) ∧ Below W.heap.size W wr ∧ Below w.heap.size w wr) (fun _ i _ => M.length - (intOf i).toNat)
      case atStart => exact ⟨0, by omega, rfl, o0, hb0, bStep hb hb0⟩
      case round =>
        clear o0 hb0 hb
        obtain ⟨k, hk, rfl, hown, hb, hbw⟩ := hrel
        have HO : Hid (OwnR wr W.heap.size u5 ((M.take k).filter fun r => decide (r.2 ≠ 0))) := hown
        have hLk : ((M.take k).filter fun r => decide (r.2 ≠ 0)).length ≤ k := Nat.le_trans (List.length_filter_le _ _) (List.length_take_le _ _)
        clear hown
        by_cases hlt : k < M.length
        · obtain ⟨g, off, K, V, A, B, D, rfl, hg, hr, c0, c1, c2, c3, c4⟩ := HC.out k hlt
          have d0 := cell_below hb c0
          have d1 := cell_below hb c1
          have d2 := cell_below hb c2
          have d3 := cell_below hb c3
          have d4 := cell_below hb c4
          clear c0 c1 c2 c3 c4
          by_cases hD : D = 0
          · subst hD
            have HZ := (show Hid _ from nz_no hr rfl)
            clear hr
            go_wp2_with fail
            go_roundw
            case rel =>
              refine ⟨k + 1, by omega, by go_num, ?_, hb, hbw⟩
              rw [HZ.out]; exact HO.out
            case measure => simp [intOf]; omega
          · have nD : (D == 0) = false := by simpa using hD
            have HZ := (show Hid _ from nz_yes hr hD)
            have O1 : OwnR wr W.heap.size u5 ((M.take k).filter fun r => decide (r.2 ≠ 0)) := HO.out
            have hz := hb.size
            clear hr HO
            generalize ((M.take k).filter fun r => decide (r.2 ≠ 0)) = L at *
            go_wp2_with (at_builtin; refine appR _ rfl _ _ rfl W.heap.size _ _ rfl (O1.alloc _) _ _ _ _ _ _ rfl (Bk.new _ _ rfl) (by omega) (by simp; omega) ?_; intro g3 cap3 w3 own3 hgrow hlg)
            have hb3 : Below W.heap.size W w3 := Below.grew (bAlloc hb _) hgrow (by simp; omega) (ownK_base O1)
            have hbw3 : Below w.heap.size w w3 := Below.grew (bAlloc hbw _) hgrow (by simp; omega) (fun q e => by have := ownK_base O1 q e; omega)
            go_roundw
            case rel =>
              refine ⟨k + 1, by omega, by go_num, ?_, hb3, hbw3⟩
              rw [HZ.out]; exact own3
            case measure => simp [intOf]; omega
        · obtain rfl : k = M.length := by omega
          go_wp2_with fail
          go_ret
          refine ⟨_, rfl, ?_, hbw⟩
          have := own_less HO.out hbS
          rw [List.take_length, ← HF.out] at this
          exact this
theorem fit_yes {l : List Rw} (h : bokB l = true) : fitL l = l := by simp [fitL, h]
theorem fit_no {l : List Rw} (h : bokB l = false) : fitL l = [] := by simp [fitL, h]
set_option maxHeartbeats 2000000 in
theorem l2Fit_any {B : Nat} {v : Value} {l : List Rw} {w : World} (h : OwnR w B v l) (hl : l.length ≤ 1000000) (hB : B ≤ w.heap.size) :
    Calls Try.prog 101 #[v] w fun e w' => ∃ o : Value, e = .returned o ∧ OwnR w' B o (fitL l) ∧ Below w.heap.size w w' := by
  have RS := OwnR.rs h (by omega)
  have HO : Hid (OwnR w B v l) := h
  clear h
  cases hk : bokB l
  · have HF : Hid (fitL l = []) := fit_no hk
    go_enter Try.func101, Try.ntmps101
    go_wp2_with fail
    refine (specBatchOk_eq hk RS).mono ?_
    rintro e w1 ⟨rfl, hb1⟩
    have hs := hb1.size
    go_wp2_with fail
    go_ret
    refine ⟨_, rfl, ?_, bAlloc hb1 _⟩
    rw [HF.out]
    exact own_less (ownR_empty w1 rfl) (by omega)
  · have HF : Hid (fitL l = l) := fit_yes hk
    go_enter Try.func101, Try.ntmps101
    go_wp2_with fail
    refine (specBatchOk_eq hk RS).mono ?_
    rintro e w1 ⟨rfl, hb1⟩
    have O1 : Hid (OwnR w1 B v l) := own_keep HO.out hb1
    go_wp2_with fail
    go_ret
    refine ⟨_, rfl, ?_, hb1⟩
    rw [HF.out]
    exact O1.out
theorem rok_abs {l : List Rw} (h : rokB l = true) : absum l ≤ 99999 * 400 := by
  have h1 := absum_le (fun r hr => rw_diff (rok_at h hr))
  have h2 := rok_len h
  have : (99999 : Int) * l.length ≤ 99999 * 400 := Int.mul_le_mul_of_nonneg_left (by omega) (by omega)
  omega
theorem batch_yes {l : List Rw} (h : rokB l = true) : batchL l = fitL (sumL ltS l) := by simp [batchL, h, sumF]
theorem batch_no {l : List Rw} (h : rokB l = false) : batchL l = [] := by simp [batchL, h]
set_option maxHeartbeats 2000000 in
theorem specBatchOf_any (v : Value) (l : List Rw) (w : World) (h : Rs w v l) :
    Calls Try.prog 37 #[v] w fun e w' => ∃ o : Value, e = .returned o ∧ OwnR w' w.heap.size o (batchL l) ∧ Below w.heap.size w w' := by
  cases hk : rokB l
  · have HF : Hid (batchL l = []) := batch_no hk
    go_enter Try.func37, Try.ntmps37
    go_wp2_with fail
    refine (specRowsOk_eq hk h).mono ?_
    rintro e w1 ⟨rfl, hb1⟩
    have hs := hb1.size
    go_wp2_with fail
    go_ret
    refine ⟨_, rfl, ?_, bAlloc hb1 _⟩
    rw [HF.out]
    exact own_less (ownR_empty w1 rfl) (by omega)
  · have HF : Hid (batchL l = fitL (sumL ltS l)) := batch_yes hk
    have ha := rok_abs hk
    have hl := rok_len hk
    have hl2 := sumL_len ltS l
    go_enter Try.func37, Try.ntmps37
    go_wp2_with fail
    refine (specRowsOk_eq hk h).mono ?_
    rintro e w1 ⟨rfl, hb1⟩
    have h1 := h.keep hb1
    have hs1 := hb1.size
    go_wp2_with fail
    refine (l2Sum_any _ l _ h1 (by omega) (by omega)).mono ?_
    rintro e w2 ⟨o2, rfl, own2, hb2⟩
    have hs2 := hb2.size
    have hbw2 := bStep hb1 hb2
    have O2 : Hid (OwnR w2 w1.heap.size o2 (sumL ltS l)) := own2
    clear own2
    go_wp2_with fail
    refine (l2Fit_any O2.out (by omega) (by omega)).mono ?_
    rintro e w3 ⟨o3, rfl, own3, hb3⟩
    have hbw3 := bStep hbw2 hb3
    have O3 : Hid (OwnR w3 w1.heap.size o3 (fitL (sumL ltS l))) := own3
    clear own3
    go_wp2_with fail
    go_ret
    refine ⟨_, rfl, ?_, hbw3⟩
    rw [HF.out]
    exact own_less O3.out hs1
end Go.Proofs.Ytbmdfmboabfceaa
