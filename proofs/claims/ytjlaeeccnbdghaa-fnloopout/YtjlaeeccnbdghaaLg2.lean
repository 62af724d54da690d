/- What the laws say of changes of rounds: plain facts. -/
import Derived.Test.YtjlaeeccnbdghaaLf0
import Derived.Test.YtjlaeeccnbdghaaLo1
namespace Go.Proofs.Ytjlaeeccnbdghaa
open Go.RowKit

theorem lok_R {T F : List Rw} {n : Int} (h : lokB T F n = true) : 1 ≤ n ∧ n ≤ 6 := by
  unfold lokB at h
  simp only [Bool.and_eq_true] at h
  simpa [inB] using h.2
theorem lflow_yes {T F : List Rw} {R : Nat} (h : lokB T F (R : Int) = true) : lflowL T F (R : Int) = sumL ltS (chV T F (tsP R 8)) := by simp [lflowL, h, lflowS]
/-- Rows of changes are of rounds. -/
theorem chV_rounds {T F : List Rw} {R : Nat} (hR : R ≤ 6) {r : Rw} (hr : r ∈ chV T F (tsP R 8)) : rwOkB r = true ∧ -2 ≤ r.2 ∧ r.2 ≤ 2 ∧ r.1.1.2 = 0 ∧ 1 ≤ r.1.2.2 ∧ r.1.2.2 ≤ R := by
  obtain ⟨h1, h2, h3, h4, h5, -⟩ := chV_row (tsP_ok hR (by omega)) hr
  refine ⟨h1, h2, h3, h4, ?_⟩
  have h6 : 0 ≤ r.1.2.2 ∧ r.1.2.2 ≤ R := by
    unfold tsP gridRow at h5
    obtain ⟨a, ha, h5⟩ := List.mem_flatMap.1 h5
    obtain ⟨b, hb, e⟩ := List.mem_map.1 h5
    rw [List.mem_range] at hb
    rw [← e]
    simp only
    omega
  refine ⟨?_, h6.2⟩
  rcases Int.lt_or_le r.1.2.2 1 with h7 | h7
  · exfalso
    unfold chV at hr
    obtain ⟨t, htm, hr⟩ := List.mem_flatMap.1 hr
    unfold stamp at hr
    obtain ⟨q, hq, rfl⟩ := List.mem_map.1 hr
    simp only at h6 h7
    have e : t = (t.1, (0 : Int)) := Prod.ext rfl (by simp only; omega)
    rw [e, dV_zero] at hq
    cases hq
  · exact h7
theorem lflow_row {T F : List Rw} {R : Nat} (h : lokB T F (R : Int) = true) {r : Rw} (hr : r ∈ lflowL T F (R : Int)) : rwOkB r = true ∧ -2 ≤ r.2 ∧ r.2 ≤ 2 ∧ r.1.1.2 = 0 ∧ 1 ≤ r.1.2.2 ∧ r.1.2.2 ≤ R := by
  have hR := lok_R h
  rw [lflow_yes h] at hr
  obtain ⟨p, hp, e⟩ := sumL_key hr
  obtain ⟨h1, h2, h3, h4, h5, h6⟩ := chV_rounds (by omega) hp
  have ht : tot (chV T F (tsP R 8)) r.1 = r.2 := by rw [← srt_tot ltS_ord (sumL_srt ltS_ord _) hr, sumL_tot ltS_ord]
  have hd : -2 ≤ r.2 ∧ r.2 ≤ 2 := by
    have h7 : tot (chV T F (tsM (R + 1))) r.1 = r.2 := by
      rw [← ht]
      refine tot_perm ?_ _
      unfold chV
      exact ((ts_perm R (by omega)).flatMap_right _).symm
    rw [← ht]
    have key : ∀ ts : List (Int × Int), ts.Nodup → -2 ≤ tot (chV T F ts) r.1 ∧ tot (chV T F ts) r.1 ≤ 2 := fun ts => by
      induction ts with
      | nil => intro _; simp [chV, tot]
      | cons t ts ih =>
        intro hn
        obtain ⟨hn1, hn2⟩ := List.nodup_cons.1 hn
        have e1 : chV T F (t :: ts) = stamp t (dV T F t) ++ chV T F ts := by unfold chV; rw [List.flatMap_cons]
        rw [e1, tot_append]
        by_cases et : t = r.1.2
        · have e2 : tot (chV T F ts) r.1 = 0 := tot_of_not fun q hq e2 => by
            unfold chV at hq
            obtain ⟨t', ht', hq⟩ := List.mem_flatMap.1 hq
            unfold stamp at hq
            obtain ⟨q', hq', rfl⟩ := List.mem_map.1 hq
            rw [← e2] at et
            simp only at et
            rw [et] at hn1
            exact hn1 ht'
          rw [e2]
          by_cases hex : ∃ q ∈ stamp t (dV T F t), q.1 = r.1
          · obtain ⟨q, hq, eq⟩ := hex
            have hs : Srt ltS (stamp t (dV T F t)) := by
              unfold stamp
              have h0 : Srt ltT (dV T F t) := sumL_srt ltT_ord _
              unfold Srt at h0 ⊢
              rw [List.pairwise_map]
              exact h0.imp fun h => by simp only [ltS, h, Bool.true_or]
            have h8 := srt_tot ltS_ord hs hq
            rw [eq] at h8
            unfold stamp at hq
            obtain ⟨q', hq', rfl⟩ := List.mem_map.1 hq
            have := dV_mem hq'
            simp only at h8
            omega
          · rw [tot_of_not (fun q hq e => hex ⟨q, hq, e⟩)]; omega
        · have e2 : tot (stamp t (dV T F t)) r.1 = 0 := tot_of_not fun q hq e2 => by
            unfold stamp at hq
            obtain ⟨q', hq', rfl⟩ := List.mem_map.1 hq
            exact et (by rw [← e2])
          rw [e2]
          have := ih hn2
          omega
    have hnd : ∀ R : Nat, R < 7 → (tsP R 8).Nodup := by decide
    exact key _ (hnd R (by omega))
  refine ⟨?_, hd.1, hd.2, by rw [← e]; exact h4, by rw [← e]; exact h5, by rw [← e]; exact h6⟩
  simp only [rwOkB, Bool.and_eq_true] at h1 ⊢
  rw [e] at h1
  exact ⟨h1.1, by simp [inB]; omega⟩
theorem lflow_rok {T F : List Rw} {R : Nat} (h : lokB T F (R : Int) = true) : rokB (lflowL T F (R : Int)) = true := by
  have hR := lok_R h
  refine rok_mk ?_ fun r hr => (lflow_row h hr).1
  rw [lflow_yes h]
  have h1 := sumL_len ltS (chV T F (tsP R 8))
  have h2 := chV_len T F (tsP R 8)
  rw [tsP_len] at h2
  omega
theorem lflow_bok {T F : List Rw} {R : Nat} (h : lokB T F (R : Int) = true) : bokB (lflowL T F (R : Int)) = true := by
  have h1 := lflow_rok h
  rw [lflow_yes h] at h1 ⊢
  rw [bok_sum]; exact h1
/-- The changes sum up to what is come to. -/
theorem lflow_items {T F : List Rw} {R : Nat} (h : lokB T F (R : Int) = true) {a b : Nat} (ha : a < 8) (hb : b ≤ R) : itemsL (lflowL T F (R : Int)) a b = vL T F a b := by
  have hR := lok_R h
  have hX : okB (a : Int) (b : Int) = true := by rw [okB_iff]; omega
  rw [items_yes (lflow_rok h) hX, lflow_yes h, at_sum]
  refine sum_as (vL_sok T F a b) fun s => ?_
  have h1 := tele_rows (vtot_out T F s) hX R (by omega) (by omega) 8 (by omega)
  rw [dsum, h1]
  have e : min (((8 : Nat) : Int) - 1) (a : Int) = (a : Int) := by omega
  rw [e]
/-- With one round more the others are as they were. -/
theorem lflow_more {T F : List Rw} {R : Nat} (h : lokB T F (R : Int) = true) (hR5 : R < 6) : ((lflowL T F ((R : Int) + 1)).filter fun r => decide (r.1.2.2 ≤ (R : Int))) = lflowL T F (R : Int) := by
  have hR := lok_R h
  have h' : lokB T F (((R + 1 : Nat) : Int)) = true := by
    unfold lokB at h ⊢
    simp only [Bool.and_eq_true] at h ⊢
    exact ⟨h.1, by simp [inB]; omega⟩
  have e0 : ((R : Int) + 1) = ((R + 1 : Nat) : Int) := by omega
  rw [e0, lflow_yes h, lflow_yes h']
  refine sumL_uniq ltS_ord ((sumL_srt ltS_ord _).filter _) (fun r hr => sumL_nz ltS _ r (List.mem_filter.1 hr).1) fun s => ?_
  have ht : ∀ s, tot (chV T F (tsP (R + 1) 8)) s = tot (chV T F (tsP R 8)) s + tot (chV T F (gridCol 8 (R + 1))) s := fun s => by
    have p1 : (tsP (R + 1) 8).Perm (tsP R 8 ++ gridCol 8 (R + 1)) := by
      have q1 := ts_perm (R + 1) (by omega)
      have q2 := ts_perm R (by omega)
      rw [tsM_snoc (R + 1)] at q1
      exact q1.trans (q2.symm.append_right _)
    rw [← tot_append, ← chV_append]
    refine tot_perm ?_ s
    unfold chV
    exact p1.flatMap_right _
  have hfil : ∀ (L : List Rw), tot (L.filter fun r => decide (r.1.2.2 ≤ (R : Int))) s = if s.2.2 ≤ (R : Int) then tot L s else 0 := fun L => by
    induction L with
    | nil => simp [tot]
    | cons r L ih =>
      rw [List.filter_cons]
      by_cases c : r.1.2.2 ≤ (R : Int)
      · rw [if_pos (by simpa using c)]
        simp only [tot, ih]
        by_cases e : r.1 = s
        · subst e; simp only [if_pos c, if_true]
        · simp only [if_neg e]; split <;> omega
      · rw [if_neg (by simpa using c)]
        simp only [tot, ih]
        by_cases e : r.1 = s
        · subst e; simp only [if_neg c, if_true]
        · simp only [if_neg e]; split <;> omega
  rw [hfil, sumL_tot ltS_ord, ht]
  by_cases c : s.2.2 ≤ (R : Int)
  · rw [if_pos c]
    have : tot (chV T F (gridCol 8 (R + 1))) s = 0 := tot_of_not fun q hq e => by
      have := (chV_row (col_ok (n := 8) (b := R + 1) (by omega) (by omega)) hq).2.2.2.2.1
      rw [e] at this
      unfold gridCol at this
      obtain ⟨a, _, e2⟩ := List.mem_map.1 this
      rw [← e2] at c
      simp only at c
      omega
    omega
  · rw [if_neg c]
    have : tot (chV T F (tsP R 8)) s = 0 := tot_of_not fun q hq e => by
      have := (chV_rounds (by omega) hq).2.2.2.2.2
      rw [e] at this
      omega
    omega
/-! ### Where nothing is first, or nothing ties -/
theorem rnd_none (ties : List It) : ∀ n, rndL ties [] n = []
  | 0 => rfl
  | n + 1 => by
    show stepL ties [] (rndL ties [] n) = []
    rw [rnd_none ties n]
    unfold stepL
    split
    · rw [show keysT [] ++ leadT ties [] = [] by simp [keysT, leadT, leadRow]]; rfl
    · rfl
theorem items_nil (x y : Int) : itemsL [] x y = [] := by
  unfold itemsL; split
  · rfl
  · rfl
theorem vL_none (T : List Rw) (x y : Int) : vL T [] x y = [] := by
  unfold vL setL
  rw [items_nil]
  split
  · exact rnd_none _ _
  · rfl
theorem dV_none (T : List Rw) (t : Int × Int) : dV T [] t = [] := by
  unfold dV
  rw [vL_none, vL_none, vL_none, vL_none]; rfl
theorem chV_none (T : List Rw) : ∀ ts, chV T [] ts = []
  | [] => rfl
  | t :: ts => by
    have e : chV T [] (t :: ts) = stamp t (dV T [] t) ++ chV T [] ts := by unfold chV; rw [List.flatMap_cons]
    rw [e, dV_none, chV_none T ts]; rfl
theorem lok_none {T F : List Rw} {n : Int} (h : lokB T F n = true) : lokB T [] n = true ∧ lokB [] F n = true ∧ lokB [] F 1 = true := by
  unfold lokB at h ⊢
  simp only [Bool.and_eq_true] at h ⊢
  obtain ⟨⟨⟨⟨h1, h2⟩, h3⟩, h4⟩, h5⟩ := h
  exact ⟨⟨⟨⟨⟨h1, bok_nil⟩, h3⟩, rfl⟩, h5⟩, ⟨⟨⟨⟨bok_nil, h2⟩, rfl⟩, h4⟩, h5⟩, ⟨⟨⟨⟨bok_nil, h2⟩, rfl⟩, h4⟩, by simp [inB]⟩⟩
theorem lflow_none (T : List Rw) (n : Int) : lflowL T [] n = [] := by
  unfold lflowL lflowS
  rw [chV_none]
  split <;> rfl
theorem rnd_alone (first : List It) (n : Nat) : rndL [] first (n + 1) = rndL [] first 1 := by
  show stepL [] first (rndL [] first n) = stepL [] first []
  unfold stepL
  rw [rnd_sok, sok_nil, show leadT [] (rndL [] first n) = leadT [] [] by simp [leadT]]
theorem vL_alone (F : List Rw) (x : Int) {b : Nat} (h1 : 1 ≤ b) (h6 : b ≤ 6) : vL [] F x (b : Int) = vL [] F x 1 := by
  obtain ⟨m, rfl⟩ : ∃ m, b = m + 1 := ⟨b - 1, by omega⟩
  rw [vL_yes [] F x h6, show (1 : Int) = ((1 : Nat) : Int) from rfl, vL_yes [] F x (by omega), items_nil, rnd_alone]
theorem dV_alone (F : List Rw) (x : Int) {b : Nat} (h1 : 1 ≤ b) (h6 : b < 6) : dV [] F (x, (b : Int) + 1) = [] := by
  have e1 : (b : Int) + 1 = ((b + 1 : Nat) : Int) := by omega
  unfold dV
  simp only
  rw [show (b : Int) + 1 - 1 = (b : Int) by omega, e1, vL_alone F x (b := b + 1) (by omega) (by omega), vL_alone F (x - 1) (b := b + 1) (by omega) (by omega), vL_alone F x h1 (by omega), vL_alone F (x - 1) h1 (by omega)]
  refine sum_none fun s => ?_
  rw [tot_append, tot_append, tot_append, neg_totI, neg_totI]
  omega
theorem row_alone (F : List Rw) (a : Nat) : ∀ R : Nat, 1 ≤ R → R ≤ 6 → chV [] F (gridRow a (R + 1)) = chV [] F (gridRow a 2)
  | 0, h, _ => by omega
  | 1, _, _ => rfl
  | R + 2, _, h6 => by
    have ih := row_alone F a (R + 1) (by omega) (by omega)
    rw [row_snoc a (R + 1 + 1), chV_snoc, ih]
    have e := dV_alone F a (b := R + 1) (by omega) (by omega)
    rw [show (((R + 1 + 1 : Nat) : Int)) = ((R + 1 : Nat) : Int) + 1 by omega, e]
    simp [stamp]
theorem ts_alone (F : List Rw) {R : Nat} (h1 : 1 ≤ R) (h6 : R ≤ 6) : ∀ A, chV [] F (tsP R A) = chV [] F (tsP 1 A)
  | 0 => rfl
  | A + 1 => by rw [tsP_snoc, tsP_snoc, chV_append, chV_append, ts_alone F h1 h6 A, row_alone F A R h1 h6]
theorem lflow_alone {F : List Rw} {n : Int} (h : lokB [] F n = true) : lflowL [] F n = lflowL [] F 1 := by
  have hR := lok_R h
  obtain ⟨R, rfl⟩ := Int.eq_ofNat_of_zero_le (show 0 ≤ n by omega)
  have h1 : lokB [] F ((1 : Nat) : Int) = true := by
    unfold lokB at h ⊢
    simp only [Bool.and_eq_true] at h ⊢
    exact ⟨h.1, by simp [inB]⟩
  rw [lflow_yes h, show (1 : Int) = ((1 : Nat) : Int) from rfl, lflow_yes h1, ts_alone F (by omega) (by omega)]
/-! ### What leaves -/
theorem lout_rounds {l : List Rw} {n : Int} {r : Rw} (hr : r ∈ loutL l n) : r.1.2.2 = 0 := by
  unfold loutL sumF fitL at hr
  split at hr
  · split at hr
    · obtain ⟨p, hp, e⟩ := sumL_key hr
      unfold outR at hp
      obtain ⟨q, hq, rfl⟩ := List.mem_map.1 hp
      rw [← e]
    · cases hr
  · cases hr
theorem lout_bok (l : List Rw) (n : Int) : bokB (loutL l n) = true := by
  unfold loutL; split
  · exact sumF_bok _
  · exact bok_nil
theorem lout_zero {l : List Rw} (h : ∀ r ∈ l, 1 ≤ r.1.2.2) : loutL l 0 = [] := by
  unfold loutL
  have e : outR 0 l = [] := by
    unfold outR
    rw [List.filter_eq_nil_iff.2 (fun r hr => by have := h r hr; simp; omega)]; rfl
  rw [e]
  split <;> rfl
end Go.Proofs.Ytjlaeeccnbdghaa
