/- Rows and items, their order, and what the functions on batches answer, as functions of lists: plain facts. -/
import Derived.Test.YtbmdfmboabfceaaBa0
import Derived.Test.YtbmdfmboabfceaaTimeB
namespace Go.Proofs.Ytbmdfmboabfceaa

abbrev Sp := (Int × Int) × (Int × Int)
abbrev Rw := Sp × Int
abbrev It := (Int × Int) × Int
/-- By the first number, then by the second. -/
def ltT (s t : Int × Int) : Bool := decide (s.1 < t.1 ∨ (s.1 = t.1 ∧ s.2 < t.2))
def ltS (s t : Sp) : Bool := ltT s.1 t.1 || (decide (s.1 = t.1) && ltT s.2 t.2)
theorem ltT_ord : Ord ltT where
  irr a := by simp [ltT]
  trans a b c h1 h2 := by simp [ltT] at *; omega
  tri a b h1 h2 := by simp [ltT] at *; exact Prod.ext (by omega) (by omega)
theorem ltS_iff (s t : Sp) : ltS s t = true ↔ s.1.1 < t.1.1 ∨ (s.1.1 = t.1.1 ∧ (s.1.2 < t.1.2 ∨ (s.1.2 = t.1.2 ∧ (s.2.1 < t.2.1 ∨ (s.2.1 = t.2.1 ∧ s.2.2 < t.2.2))))) := by
  simp only [ltS, ltT, Bool.or_eq_true, Bool.and_eq_true, decide_eq_true_eq, Prod.ext_iff]; omega
theorem ltS_ord : Ord ltS where
  irr a := by rw [Bool.eq_false_iff, Ne, ltS_iff]; omega
  trans a b c h1 h2 := by rw [ltS_iff] at *; omega
  tri a b h1 h2 := by
    rw [Bool.eq_false_iff, Ne, ltS_iff] at h1 h2
    exact Prod.ext (Prod.ext (by omega) (by omega)) (Prod.ext (by omega) (by omega))
/-- What a comparison of two keys answers. -/
def cmpT (s t : Int × Int) : Int := if ltT s t then -1 else if ltT t s then 1 else 0
def cmpS (s t : Sp) : Int := if ltS s t then -1 else if ltS t s then 1 else 0
theorem cmpS_lt (s t : Sp) : decide (cmpS s t < 0) = ltS s t := by
  unfold cmpS
  cases h1 : ltS s t <;> cases h2 : ltS t s <;> simp
theorem cmpS_gt (s t : Sp) : decide (0 < cmpS s t) = ltS t s := by
  unfold cmpS
  cases h1 : ltS s t <;> cases h2 : ltS t s <;> simp
  have := ltS_ord.trans _ _ _ h1 h2
  rw [ltS_ord.irr] at this; cases this
theorem cmpT_lt (s t : Int × Int) : decide (cmpT s t < 0) = ltT s t := by
  unfold cmpT
  cases h1 : ltT s t <;> cases h2 : ltT t s <;> simp

/-- What a row must be like. -/
def rwOkB (r : Rw) : Bool := inB r.1.1.1 0 3 && inB r.1.1.2 0 99 && okB r.1.2.1 r.1.2.2 && inB r.2 (-99999) 99999
def rokB (l : List Rw) : Bool := decide (l.length ≤ 400) && l.all rwOkB
theorem rok_len {l : List Rw} (h : rokB l = true) : l.length ≤ 400 := by simp [rokB] at h; exact h.1
theorem rok_at {l : List Rw} (h : rokB l = true) {r : Rw} (hr : r ∈ l) : rwOkB r = true := by
  simp only [rokB, Bool.and_eq_true, List.all_eq_true] at h; exact h.2 r hr
theorem rok_mk {l : List Rw} (h : l.length ≤ 400) (ha : ∀ r ∈ l, rwOkB r = true) : rokB l = true := by
  simp only [rokB, Bool.and_eq_true, List.all_eq_true, decide_eq_true_eq]; exact ⟨h, ha⟩
theorem rok_no {l : List Rw} {r : Rw} (hr : r ∈ l) (h : rwOkB r = false) : rokB l = false := by
  rw [Bool.eq_false_iff]; intro e; rw [rok_at e hr] at h; cases h
theorem rok_long {l : List Rw} (h : 400 < l.length) : rokB l = false := by simp [rokB]; omega
theorem rw_time {r : Rw} (h : rwOkB r = true) : okB r.1.2.1 r.1.2.2 = true := by simp [rwOkB] at h; exact h.1.2
theorem rw_diff {r : Rw} (h : rwOkB r = true) : -99999 ≤ r.2 ∧ r.2 ≤ 99999 := by simp [rwOkB, inB] at h; exact h.2
/-- What place i of rows must be like in a batch. -/
def bstep (l : List Rw) (i : Nat) : Bool :=
  match l[i]? with
  | none => true
  | some r => decide (r.2 ≠ 0) && (match i with | 0 => true | j + 1 => match l[j]? with | none => true | some q => ltS q.1 r.1)
def bokB (l : List Rw) : Bool := rokB l && (List.range l.length).all (bstep l)
theorem bok_rok {l : List Rw} (h : bokB l = true) : rokB l = true := by simp [bokB] at h; exact h.1
theorem bok_nr {l : List Rw} (h : rokB l = false) : bokB l = false := by simp [bokB, h]
theorem bok_no {l : List Rw} {i : Nat} (hi : i < l.length) (h : bstep l i = false) : bokB l = false := by
  unfold bokB
  have : (List.range l.length).all (bstep l) = false := by
    rw [List.all_eq_false]; exact ⟨i, by simpa using hi, by simp [h]⟩
  rw [this, Bool.and_false]
theorem bok_mk {l : List Rw} (h : rokB l = true) (ha : ∀ i, i < l.length → bstep l i = true) : bokB l = true := by
  unfold bokB; rw [h, Bool.true_and, List.all_eq_true]; intro j hj; exact ha j (by simpa using hj)
theorem bstep_first {l : List Rw} {r : Rw} (h : l[0]? = some r) : bstep l 0 = decide (r.2 ≠ 0) := by unfold bstep; rw [h]; simp
theorem bstep_next {l : List Rw} {r q : Rw} {j : Nat} (h : l[j + 1]? = some r) (h' : l[j]? = some q) : bstep l (j + 1) = (decide (r.2 ≠ 0) && ltS q.1 r.1) := by
  unfold bstep; rw [h]; simp [h']
theorem bok_nz {l : List Rw} (h : bokB l = true) : Nz l := fun r hr => by
  obtain ⟨i, hi, e⟩ := List.getElem_of_mem hr
  simp only [bokB, Bool.and_eq_true, List.all_eq_true] at h
  have := h.2 i (by simpa using hi)
  unfold bstep at this
  rw [List.getElem?_eq_getElem hi, e] at this
  simp at this
  exact this.1
theorem srt_of_steps {l : List Rw} (h : ∀ i r q, l[i + 1]? = some r → l[i]? = some q → ltS q.1 r.1 = true) : Srt ltS l := by
  have key : ∀ d i (h1 : i + d + 1 < l.length), ltS (l[i]'(by omega)).1 l[i + d + 1].1 = true := by
    intro d
    induction d with
    | zero => intro i h1; exact h i _ _ (List.getElem?_eq_getElem h1) (List.getElem?_eq_getElem (by omega))
    | succ d ih =>
      intro i h1
      exact ltS_ord.trans _ _ _ (ih i (by omega)) (h (i + d + 1) _ _ (List.getElem?_eq_getElem (by omega)) (List.getElem?_eq_getElem (by omega)))
  refine List.pairwise_iff_getElem.2 fun i j hi hj hij => ?_
  obtain ⟨d, rfl⟩ : ∃ d, j = i + d + 1 := ⟨j - i - 1, by omega⟩
  exact key d i hj
theorem bok_srt {l : List Rw} (h : bokB l = true) : Srt ltS l := srt_of_steps fun i r q h1 h2 => by
  simp only [bokB, Bool.and_eq_true, List.all_eq_true] at h
  have := h.2 (i + 1) (by simpa using (List.getElem?_eq_some_iff.1 h1).1)
  rw [bstep_next h1 h2] at this
  simp at this
  exact this.2
theorem bok_of {l : List Rw} (h : rokB l = true) (hn : Nz l) (hs : Srt ltS l) : bokB l = true := bok_mk h fun i hi => by
  have hr := List.getElem?_eq_getElem hi
  have h0 := hn _ (List.getElem_mem hi)
  match i, hi, hr, h0 with
  | 0, hi, hr, h0 => rw [bstep_first hr]; simpa using h0
  | j + 1, hi, hr, h0 =>
    have hq := List.getElem?_eq_getElem (l := l) (i := j) (by omega)
    rw [bstep_next hr hq, Bool.and_eq_true]
    exact ⟨by simpa using h0, List.pairwise_iff_getElem.1 hs j (j + 1) (by omega) hi (by omega)⟩
theorem bok_sum (l : List Rw) : bokB (sumL ltS l) = rokB (sumL ltS l) := by
  cases h : rokB (sumL ltS l)
  · exact bok_nr h
  · exact bok_of h (sumL_nz _ _) (sumL_srt ltS_ord _)

/-! ### What the functions answer -/
def fitL (l : List Rw) : List Rw := if bokB l then l else []
def sumF (l : List Rw) : List Rw := fitL (sumL ltS l)
def batchL (l : List Rw) : List Rw := if rokB l then sumF l else []
def bothB (a b : List Rw) : List Rw := if rokB a && rokB b then sumF (a ++ b) else []
def negL (l : List Rw) : List Rw := l.map fun r => (r.1, -r.2)
def lessL (l : List Rw) : List Rw := if rokB l then sumF (negL l) else []
/-- What is there at a time. -/
def atL (l : List Rw) (x y : Int) : List It := (l.filter fun r => leB r.1.2.1 r.1.2.2 x y).map fun r => (r.1.1, r.2)
def itemsL (l : List Rw) (x y : Int) : List It := if rokB l && okB x y then sumL ltT (atL l x y) else []
theorem rok_nil : rokB [] = true := by decide
theorem bok_nil : bokB [] = true := by decide
theorem fit_bok (l : List Rw) : bokB (fitL l) = true := by
  unfold fitL; split
  · assumption
  · exact bok_nil
theorem fit_eq {l : List Rw} (h : bokB l = true) : fitL l = l := by simp [fitL, h]
theorem sumF_eq (l : List Rw) : sumF l = if rokB (sumL ltS l) then sumL ltS l else [] := by unfold sumF fitL; rw [bok_sum]
theorem sumF_ok {l : List Rw} (h : rokB (sumL ltS l) = true) : sumF l = sumL ltS l := by rw [sumF_eq, if_pos h]
theorem sumF_no {l : List Rw} (h : rokB (sumL ltS l) = false) : sumF l = [] := by rw [sumF_eq]; simp [h]
theorem sumF_self {l : List Rw} (h : bokB l = true) : sumF l = l := by
  unfold sumF; rw [sumL_self ltS_ord (bok_srt h) (bok_nz h)]; exact fit_eq h
theorem sumF_congr {l m : List Rw} (h : ∀ s, tot l s = tot m s) : sumF l = sumF m := by unfold sumF; rw [sumL_congr ltS_ord h]
theorem sumF_bok (l : List Rw) : bokB (sumF l) = true := fit_bok _
theorem sumF_len (l : List Rw) : (sumF l).length ≤ l.length := by
  unfold sumF fitL; split
  · exact sumL_len _ _
  · simp
theorem sumF_len4 (l : List Rw) : (sumF l).length ≤ 400 := rok_len (bok_rok (sumF_bok l))
theorem batch_bok (l : List Rw) : bokB (batchL l) = true := by
  unfold batchL; split
  · exact sumF_bok l
  · exact bok_nil
theorem batch_self {l : List Rw} (h : bokB l = true) : batchL l = l := by
  unfold batchL; rw [if_pos (bok_rok h)]; exact sumF_self h
theorem batch_twice (l : List Rw) : batchL (batchL l) = batchL l := batch_self (batch_bok l)
theorem batch_ne {l : List Rw} (h : bokB l = false) : batchL l ≠ l := fun e => by
  have := batch_bok l; rw [e, h] at this; cases this
theorem batch_len (l : List Rw) : (batchL l).length ≤ 400 := rok_len (bok_rok (batch_bok l))
/-- Where the sums are not too great, rows that are ok make a batch. -/
theorem sum_rok {l : List Rw} (hl : l.length ≤ 400) (h : ∀ r ∈ l, inB r.1.1.1 0 3 = true ∧ inB r.1.1.2 0 99 = true ∧ okB r.1.2.1 r.1.2.2 = true) (ha : absum l ≤ 99999) : rokB (sumL ltS l) = true := by
  refine rok_mk (Nat.le_trans (sumL_len _ _) hl) fun r hr => ?_
  obtain ⟨q, hq, e⟩ := sumL_key hr
  obtain ⟨h1, h2, h3⟩ := h q hq
  have hb := sumL_abs ltS_ord hr
  rw [e] at h1 h2 h3
  have h4 : inB r.2 (-99999) 99999 = true := by simp [inB]; omega
  simp [rwOkB, h1, h2, h3, h4]
theorem rw_parts {r : Rw} (h : rwOkB r = true) : inB r.1.1.1 0 3 = true ∧ inB r.1.1.2 0 99 = true ∧ okB r.1.2.1 r.1.2.2 = true := by
  simp only [rwOkB, Bool.and_eq_true] at h; exact ⟨h.1.1.1, h.1.1.2, h.1.2⟩
theorem batch_sum {l : List Rw} (h : rokB l = true) (ha : absum l ≤ 99999) : batchL l = sumL ltS l := by
  unfold batchL; rw [if_pos h]; exact sumF_ok (sum_rok (rok_len h) (fun r hr => rw_parts (rok_at h hr)) ha)
/-- What there is at a time hangs on the sums alone. -/
theorem at_tot (l : List Rw) (x y : Int) (th : Int × Int) : tot (atL l x y) th = wsum (fun s : Sp => if leB s.2.1 s.2.2 x y = true ∧ s.1 = th then 1 else 0) l :=
  tot_some (fun s : Sp => leB s.2.1 s.2.2 x y) (fun s : Sp => s.1) l th
theorem items_congr {l m : List Rw} (hr : rokB l = rokB m) (h : ∀ s, tot l s = tot m s) (x y : Int) : itemsL l x y = itemsL m x y := by
  unfold itemsL; rw [hr]
  congr 1
  exact sumL_congr ltT_ord fun th => by rw [at_tot, at_tot, wsum_of_tot ltS_ord _ h]
theorem items_batch {l : List Rw} (h : rokB l = true) (ha : absum l ≤ 99999) (x y : Int) : itemsL (batchL l) x y = itemsL l x y :=
  items_congr (by rw [h]; exact bok_rok (batch_bok l)) (fun s => by rw [batch_sum h ha, sumL_tot ltS_ord]) x y
theorem batch_reverse (l : List Rw) : batchL l.reverse = batchL l := by
  unfold batchL
  have : rokB l.reverse = rokB l := by simp [rokB]
  rw [this, sumF_congr (fun s => tot_reverse l s)]
theorem both_comm (a b : List Rw) : bothB b a = bothB a b := by
  unfold bothB
  rw [Bool.and_comm, sumF_congr (l := b ++ a) (m := a ++ b) (fun s => by rw [tot_append, tot_append]; omega)]
theorem both_nil (a : List Rw) : bothB a [] = batchL a := by
  unfold bothB batchL; rw [rok_nil, Bool.and_true, List.append_nil]
end Go.Proofs.Ytbmdfmboabfceaa
