/- Contracts of chapter 2 in the form in which the laws use them. -/
import Derived.Test.YtlddhfimiignaaaGd3
import Derived.Test.YtlddhfimiignaaaGs3
import Derived.Test.YtlddhfimiignaaaGs4
import Derived.Test.YtlddhfimiignaaaGs5
import Derived.Test.YtlddhfimiignaaaGs6
import Derived.Test.YtlddhfimiignaaaGs7
import Derived.Test.YtlddhfimiignaaaGb0
/-! Contracts of chapter 2 in the form in which the laws use them. -/
namespace Go.Proofs.Ytlddhfimiignaaa
open Go.RowKit

theorem ofOwnR {f : FuncId} {args : Array Value} {w : World} {L M : List Rw} (e : M = L) (hl : M.length ≤ 2097152) (h : Calls Try.prog f args w fun e w' => ∃ o : Value, e = .returned o ∧ OwnR w' w.heap.size o M ∧ Below w.heap.size w w') :
    Calls Try.prog f args w fun e w' => ∃ o : Value, e = .returned o ∧ Rs w' o L ∧ Below w.heap.size w w' := by
  subst e
  refine h.mono ?_
  rintro e w' ⟨o, rfl, own, hb⟩
  exact ⟨o, rfl, OwnR.rs own hl, hb⟩
theorem ofOwnI {f : FuncId} {args : Array Value} {w : World} {L M : List It} (e : M = L) (hl : M.length ≤ 2097152) (h : Calls Try.prog f args w fun e w' => ∃ o : Value, e = .returned o ∧ OwnI w' w.heap.size o M ∧ Below w.heap.size w w') :
    Calls Try.prog f args w fun e w' => ∃ o : Value, e = .returned o ∧ Is w' o L ∧ Below w.heap.size w w' := by
  subst e
  refine h.mono ?_
  rintro e w' ⟨o, rfl, own, hb⟩
  exact ⟨o, rfl, OwnI.is own hl, hb⟩
theorem ofOwnT {f : FuncId} {args : Array Value} {w : World} {L M : List (Int × Int)} (e : M = L) (hl : M.length ≤ 2097152) (h : Calls Try.prog f args w fun e w' => ∃ o : Value, e = .returned o ∧ Own w' w.heap.size o M ∧ Below w.heap.size w w') :
    Calls Try.prog f args w fun e w' => ∃ o : Value, e = .returned o ∧ Ts w' o L ∧ Below w.heap.size w w' := by
  subst e
  refine h.mono ?_
  rintro e w' ⟨o, rfl, own, hb⟩
  exact ⟨o, rfl, Own.ts own hl, hb⟩
theorem implBothB_k {l l' L : List Rw} (e : bothB l l' = L) {v v' : Value} {w : World} (h : Rs w v l) (h' : Rs w v' l') : Calls Try.prog 40 #[v, v'] w fun e w' => ∃ o : Value, e = .returned o ∧ Rs w' o L ∧ Below w.heap.size w w' :=
  ofOwnR e (by have := bothB_len l l'; omega) (implBothB_any v v' l l' w h h')
theorem implTimesB_k {l : List Rw} {L : List (Int × Int)} (e : timesL l = L) {v : Value} {w : World} (h : Rs w v l) : Calls Try.prog 42 #[v] w fun e w' => ∃ o : Value, e = .returned o ∧ Ts w' o L ∧ Below w.heap.size w w' :=
  ofOwnT e (by have := times_len l; omega) (implTimes2_any v l w h)
theorem specAt_k {l : List Rw} {x y : Int} {L : List It} (e : itemsL l x y = L) {v : Value} {w : World} (h : Rs w v l) : Calls Try.prog 129 #[v, tv x y] w fun e w' => ∃ o : Value, e = .returned o ∧ Is w' o L ∧ Below w.heap.size w w' :=
  ofOwnI e (by have := items_len l x y; omega) (specAt_any v l x y w h)
theorem nilR (w : World) : Rs w (.slice none 0 0) [] := OwnR.rs (ownK_nil rowC 5 55 w 0) (by simp)
theorem nilI (w : World) : Is w (.slice none 0 0) [] := OwnI.is (ownK_nil itC 3 34 w 0) (by simp)
theorem nilT (w : World) : Ts w (.slice none 0 0) [] := ⟨none, 0, rfl, Nat.le_refl _, by unfold maxLen; omega, by simp, fun i hi => by simp at hi⟩
end Go.Proofs.Ytlddhfimiignaaa

/-! What batches say that are summed up, moved, put together: plain facts for the laws of chapter 2. -/
namespace Go.Proofs.Ytlddhfimiignaaa
open Go.RowKit

theorem sm_rok {l : List Rw} (hl : l.length ≤ 400) (h : ∀ r ∈ l, smR r) : rokB l = true := rok_mk hl fun r hr => (h r hr).1
theorem mv_pair (f : List (Int × Int)) (x y : Int) : moveV f x y = ((moveV f x y).1, (moveV f x y).2) := rfl
theorem mv_ok {f : List (Int × Int)} (hf : fokB f = true) {r : Rw} (hr : rwOkB r = true) : rwOkB (mvR f r) = true := by
  have h1 := move_ok hf (rw_time hr) (mv_pair f r.1.2.1 r.1.2.2)
  simp only [rwOkB, Bool.and_eq_true] at hr ⊢
  exact ⟨⟨hr.1.1, h1⟩, hr.2⟩
theorem mv_rok {f : List (Int × Int)} (hf : fokB f = true) {l : List Rw} (h : rokB l = true) : rokB (moveL f l) = true := by
  refine rok_mk (by simp [moveL]; exact rok_len h) fun r hr => ?_
  obtain ⟨q, hq, rfl⟩ := List.mem_map.1 hr
  exact mv_ok hf (rok_at h hq)
theorem mv_sum {f : List (Int × Int)} (hf : fokB f = true) {l : List Rw} (h : rokB l = true) (ha : absum l ≤ 99999) : bmoveL l f = sumL ltS (moveL f l) := by
  rw [bmove_yes h hf]
  have h1 := mv_rok hf h
  exact sumF_ok (sum_rok (rok_len h1) (fun r hr => rw_parts (rok_at h1 hr)) (by rw [move_abs]; exact ha))
theorem wsum_move (g : Sp → Int) (f : List (Int × Int)) (l : List Rw) : wsum g (moveL f l) = wsum (fun s => g (s.1, moveV f s.2.1 s.2.2)) l := by
  unfold moveL
  induction l with
  | nil => rfl
  | cons r l ih => simp only [List.map_cons, wsum, ih]; rfl
theorem bmove_rok (l : List Rw) (f : List (Int × Int)) : rokB (bmoveL l f) = true := by
  unfold bmoveL; split
  · exact bok_rok (sumF_bok _)
  · exact rok_nil
theorem bmove_bok (l : List Rw) (f : List (Int × Int)) : bokB (bmoveL l f) = true := by
  unfold bmoveL; split
  · exact sumF_bok _
  · exact bok_nil
theorem move_items {f : List (Int × Int)} (hf : fokB f = true) {l : List Rw} (h : rokB l = true) (ha : absum l ≤ 99999) {X Y : Int} (hX : okB X Y = true) (hc : askedB f X Y = true) : itemsL l X Y = itemsL (bmoveL l f) X Y := by
  rw [items_yes h hX, items_yes (bmove_rok l f) hX]
  refine sumL_congr ltT_ord fun th => ?_
  rw [at_tot, at_tot, mv_sum hf h ha, sumL_wsum ltS_ord, wsum_move]
  refine wsum_congr fun r hr => ?_
  have ht := rw_time (rok_at h hr)
  have e : leB r.1.2.1 r.1.2.2 X Y = leB (moveV f r.1.2.1 r.1.2.2).1 (moveV f r.1.2.1 r.1.2.2).2 X Y := by
    by_cases h0 : f.length = 0
    · obtain ⟨e1, e2⟩ := move_empty hf ht (mv_pair f r.1.2.1 r.1.2.2) h0
      rw [e1, e2]
    · unfold askedB at hc
      simp only [Bool.or_eq_true, decide_eq_true_eq, Bool.and_eq_true] at hc
      rcases hc with hc | hc
      · exact absurd hc h0
      · exact move_same hf ht (mv_pair f r.1.2.1 r.1.2.2) hc.2
  simp only [e]
theorem batch_items {l : List Rw} (h : rokB l = true) (ha : absum l ≤ 99999) (X Y : Int) : itemsL l X Y = itemsL (batchL l) X Y := (items_batch h ha X Y).symm
theorem mem_move {f : List (Int × Int)} {l : List Rw} {r : Rw} (h : r ∈ sumL ltS (moveL f l)) : ∃ q ∈ l, r.1.2 = moveV f q.1.2.1 q.1.2.2 := by
  obtain ⟨q, hq, e⟩ := sumL_key h
  obtain ⟨q', hq', rfl⟩ := List.mem_map.1 hq
  exact ⟨q', hq', by rw [← e]; rfl⟩
/-- A batch that was moved is where it is moved to. -/
theorem bmove_mem {l : List Rw} {f : List (Int × Int)} {r : Rw} (h : r ∈ bmoveL l f) : fokB f = true ∧ ∃ q ∈ l, okB q.1.2.1 q.1.2.2 = true ∧ r.1.2 = moveV f q.1.2.1 q.1.2.2 := by
  unfold bmoveL at h
  split at h
  · rename_i hc
    rw [Bool.and_eq_true] at hc
    unfold sumF fitL at h
    split at h
    · obtain ⟨q, hq, e⟩ := mem_move h
      exact ⟨hc.2, q, hq, rw_time (rok_at hc.1 hq), e⟩
    · simp at h
  · simp at h
theorem bmove_twice (l : List Rw) (f : List (Int × Int)) : bmoveL (bmoveL l f) f = bmoveL l f := by
  cases hf : fokB f
  · rw [bmove_no2 hf, bmove_no2 hf]
  · rw [bmove_yes (bmove_rok l f) hf]
    have e : moveL f (bmoveL l f) = bmoveL l f := by
      unfold moveL
      conv => rhs; rw [← List.map_id (bmoveL l f)]
      refine List.map_congr_left fun r hr => ?_
      obtain ⟨_, q, _, hq, e⟩ := bmove_mem hr
      have := move_twice hf hq (mv_pair f q.1.2.1 q.1.2.2)
      show ((r.1.1, moveV f r.1.2.1 r.1.2.2), r.2) = r
      rw [e, this]
      exact Prod.ext (Prod.ext rfl (by rw [e])) rfl
    rw [e]
    exact sumF_self (bmove_bok l f)
theorem bmove_few (l : List Rw) (f : List (Int × Int)) : (bmoveL l f).length ≤ l.length := by
  unfold bmoveL; split
  · exact Nat.le_trans (sumF_len _) (by simp [moveL])
  · simp
theorem one_cov {f : List (Int × Int)} (hf : fokB f = true) (h1 : f.length = 1) {x y : Int} (hx : okB x y = true) : anyB f (moveV f x y).1 (moveV f x y).2 = true := by
  obtain ⟨p, rfl⟩ := List.length_eq_one_iff.1 h1
  have hp := fok_ok hf (k := 0) (by simp)
  obtain ⟨_, h2, h3⟩ := move_facts hf hx (mv_pair [p] x y) (by simp)
  have h4 := h3 _ _ (fun i hi => by
    obtain rfl : i = 0 := by simpa using hi
    exact leB_self (jnA x y (tA [p] 0) (tB [p] 0)) (jnB x y (tA [p] 0) (tB [p] 0)) ▸ jn_ok hx hp)
  have h5 := leB_trans (jn_right hx hp) h4
  refine any_iff.2 ⟨p, by simp, ?_⟩
  exact h5
theorem bmove_cov {l : List Rw} {f : List (Int × Int)} (h1 : f.length = 1) {r : Rw} (hr : r ∈ bmoveL l f) : (fokB f && anyB f r.1.2.1 r.1.2.2) = true := by
  obtain ⟨hf, q, _, hq, e⟩ := bmove_mem hr
  rw [hf, Bool.true_and, e]
  exact one_cov hf h1 hq
theorem bothB_sum {a b : List Rw} (ha : rokB a = true) (hb : rokB b = true) (hl : a.length + b.length ≤ 400) (hs : absum a + absum b ≤ 99999) : bothB a b = sumL ltS (a ++ b) := by
  rw [bothB_yes ha hb]
  refine sumF_ok (sum_rok (by rw [List.length_append]; exact hl) (fun r hr => ?_) (by rw [absum_append]; exact hs))
  rcases List.mem_append.1 hr with hr | hr
  · exact rw_parts (rok_at ha hr)
  · exact rw_parts (rok_at hb hr)
theorem bothB_rok (a b : List Rw) : rokB (bothB a b) = true := by
  unfold bothB; split
  · exact bok_rok (sumF_bok _)
  · exact rok_nil
theorem put_absR (r : Rw) (l : List Rw) : absum (putL ltS r l) ≤ r.2.natAbs + absum l := by
  induction l with
  | nil => simp [putL, absum]
  | cons x l ih =>
    unfold putL
    by_cases h1 : ltS r.1 x.1 = true
    · rw [if_pos h1]; simp only [absum]; omega
    · rw [if_neg h1]
      by_cases h2 : ltS x.1 r.1 = true
      · rw [if_pos h2]; simp only [absum]; omega
      · rw [if_neg h2]; simp only [absum]; omega
theorem sumA_absR (l : List Rw) : absum (sumA ltS l) ≤ absum l := by
  induction l using snoc_ind with
  | h0 => simp [sumA]
  | h1 l r ih =>
    rw [sumA_snoc, absum_append]
    have := put_absR r (sumA ltS l)
    simp only [absum]
    omega
theorem abs_filterR (l : List Rw) (p : Rw → Bool) : absum (l.filter p) ≤ absum l := by
  induction l with
  | nil => simp
  | cons r l ih =>
    rw [List.filter_cons]
    split
    · simp only [absum]; omega
    · simp only [absum]; omega
theorem sum_absR (l : List Rw) : absum (sumL ltS l) ≤ absum l := Int.le_trans (abs_filterR _ _) (sumA_absR l)
theorem sumF_absR (l : List Rw) : absum (sumF l) ≤ absum l := by
  unfold sumF fitL; split
  · exact sum_absR l
  · exact absum_pos l
theorem bothB_abs (a b : List Rw) : absum (bothB a b) ≤ absum a + absum b := by
  unfold bothB; split
  · rw [← absum_append]; exact sumF_absR _
  · have := absum_pos a; have := absum_pos b; simp only [absum]; omega
theorem bmove_abs (l : List Rw) (f : List (Int × Int)) : absum (bmoveL l f) ≤ absum l := by
  unfold bmoveL; split
  · rw [← move_abs f l]; exact sumF_absR _
  · exact absum_pos l
theorem move_both {a b : List Rw} {f : List (Int × Int)} (hf : fokB f = true) (ha : rokB a = true) (hb : rokB b = true) (la : a.length ≤ 11) (lb : b.length ≤ 11) (aa : absum a ≤ 33) (ab : absum b ≤ 33) :
    bmoveL (bothB a b) f = bothB (bmoveL a f) (bmoveL b f) := by
  have l1 := bmove_few a f
  have l2 := bmove_few b f
  have a1 := bmove_abs a f
  have a2 := bmove_abs b f
  have a3 := bothB_abs a b
  rw [mv_sum hf (bothB_rok a b) (by omega), bothB_sum (bmove_rok a f) (bmove_rok b f) (by omega) (by omega), bothB_sum ha hb (by omega) (by omega), mv_sum hf ha (by omega), mv_sum hf hb (by omega)]
  refine sumL_congr ltS_ord fun s => ?_
  rw [tot_append, sumL_tot ltS_ord, sumL_tot ltS_ord, tot_eq_wsum, tot_eq_wsum, tot_eq_wsum, wsum_move, wsum_move, wsum_move, sumL_wsum ltS_ord, wsum_append]
theorem times_few {l : List Rw} : (timesL l).length ≤ l.length := by
  unfold timesL; split
  · rename_i h
    have hs := times_srt l 64
    have hn : (timesTo l 64).Nodup := hs.imp fun {p q} hlt e => by subst e; rw [ltT_ord.irr] at hlt; cases hlt
    have hsub : ∀ t ∈ timesTo l 64, t ∈ l.map fun r => r.1.2 := fun t ht => by
      obtain ⟨r, hr, e⟩ := (times_mem h t).1 ht
      exact List.mem_map.2 ⟨r, hr, e⟩
    have := hn.length_le_of_subset hsub
    simpa using this
  · simp
theorem ahead_none {l : List Rw} (h : rokB l = true) {X Y : Int} (hX : okB X Y = true) (hc : (fokB (frontL (timesL l)) && anyB (frontL (timesL l)) X Y) = false) : itemsL l X Y = [] := by
  have ha : aokB (timesL l) = true := by
    refine aok_of_mem fun p hp => ?_
    rw [times_yes h] at hp
    obtain ⟨r, hr, rfl⟩ := (times_mem h p).1 hp
    exact rw_time (rok_at h hr)
  rw [front_fok, Bool.true_and, front_any ha] at hc
  rw [items_yes h hX]
  have e : atL l X Y = [] := by
    unfold atL
    rw [List.map_eq_nil_iff, List.filter_eq_nil_iff]
    intro r hr
    rw [Bool.not_eq_true, Bool.eq_false_iff]
    intro hle
    rw [Bool.eq_false_iff] at hc
    refine hc (any_iff.2 ⟨r.1.2, ?_, hle⟩)
    rw [times_yes h]
    exact (times_mem h _).2 ⟨r, hr, rfl⟩
  rw [e]; rfl
end Go.Proofs.Ytlddhfimiignaaa
