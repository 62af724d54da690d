import Derived.Test.YtdbhgocaelmanaaGreatGb1
import Derived.Test.YtdbhgocaelmanaaGreatGm1
namespace Go.Proofs.YtdbhgocaelmanaaGreat
def itOkB (r : It) : Bool := inB r.1.1 0 3 && inB r.1.2 0 99 && decide (r.2 ≠ 0) && inB r.2 (-1099511627776) 1099511627776
def sstep (l : List It) (i : Nat) : Bool :=
  match l[i]? with
  | none => true
  | some r => itOkB r && (match i with | 0 => true | j + 1 => match l[j]? with | none => true | some q => ltT q.1 r.1)
def sokB (l : List It) : Bool := decide (l.length ≤ 400) && (List.range l.length).all (sstep l)
theorem sok_len {l : List It} (h : sokB l = true) : l.length ≤ 400 := by simp [sokB] at h; exact h.1
theorem sok_no {l : List It} {i : Nat} (hi : i < l.length) (h : sstep l i = false) : sokB l = false := by
  unfold sokB
  have : (List.range l.length).all (sstep l) = false := by
    rw [List.all_eq_false]; exact ⟨i, by simpa using hi, by simp [h]⟩
  rw [this, Bool.and_false]
theorem sok_long {l : List It} (h : 400 < l.length) : sokB l = false := by simp [sokB]; omega
theorem sok_mk {l : List It} (h : l.length ≤ 400) (ha : ∀ i, i < l.length → sstep l i = true) : sokB l = true := by
  unfold sokB; rw [Bool.and_eq_true, List.all_eq_true]; exact ⟨by simpa using h, fun j hj => ha j (by simpa using hj)⟩
theorem sstep_first {l : List It} {r : It} (h : l[0]? = some r) : sstep l 0 = itOkB r := by unfold sstep; rw [h]; simp
theorem sstep_next {l : List It} {r q : It} {j : Nat} (h : l[j + 1]? = some r) (h' : l[j]? = some q) : sstep l (j + 1) = (itOkB r && ltT q.1 r.1) := by
  unfold sstep; rw [h]; simp [h']
theorem sok_st {l : List It} (h : sokB l = true) {i : Nat} (hi : i < l.length) : sstep l i = true := by
  simp only [sokB, Bool.and_eq_true, List.all_eq_true] at h
  exact h.2 i (by simpa using hi)
theorem sok_at {l : List It} (h : sokB l = true) {r : It} (hr : r ∈ l) : itOkB r = true := by
  obtain ⟨i, hi, e⟩ := List.getElem_of_mem hr
  have hs := sok_st h hi
  unfold sstep at hs
  rw [List.getElem?_eq_getElem hi, e] at hs
  simp only [Bool.and_eq_true] at hs
  exact hs.1
theorem srtT_of_steps {l : List It} (h : ∀ i r q, l[i + 1]? = some r → l[i]? = some q → ltT q.1 r.1 = true) : Srt ltT l := by
  have key : ∀ d i (h1 : i + d + 1 < l.length), ltT (l[i]'(by omega)).1 l[i + d + 1].1 = true := by
    intro d
    induction d with
    | zero => intro i h1; exact h i _ _ (List.getElem?_eq_getElem h1) (List.getElem?_eq_getElem (by omega))
    | succ d ih =>
      intro i h1
      exact ltT_ord.trans _ _ _ (ih i (by omega)) (h (i + d + 1) _ _ (List.getElem?_eq_getElem (by omega)) (List.getElem?_eq_getElem (by omega)))
  refine List.pairwise_iff_getElem.2 fun i j hi hj hij => ?_
  obtain ⟨d, rfl⟩ : ∃ d, j = i + d + 1 := ⟨j - i - 1, by omega⟩
  exact key d i hj
theorem sok_srt {l : List It} (h : sokB l = true) : Srt ltT l := srtT_of_steps fun i r q h1 h2 => by
  have := sok_st h (List.getElem?_eq_some_iff.1 h1).1
  rw [sstep_next h1 h2] at this
  simp at this
  exact this.2
theorem it_parts {r : It} (h : itOkB r = true) : 0 ≤ r.1.1 ∧ r.1.1 ≤ 3 ∧ 0 ≤ r.1.2 ∧ r.1.2 ≤ 99 ∧ r.2 ≠ 0 ∧ -1099511627776 ≤ r.2 ∧ r.2 ≤ 1099511627776 := by
  simp only [itOkB, inB, Bool.and_eq_true, decide_eq_true_eq] at h; omega
theorem it_mk {r : It} (h : 0 ≤ r.1.1 ∧ r.1.1 ≤ 3 ∧ 0 ≤ r.1.2 ∧ r.1.2 ≤ 99 ∧ r.2 ≠ 0 ∧ -1099511627776 ≤ r.2 ∧ r.2 ≤ 1099511627776) : itOkB r = true := by
  simp only [itOkB, inB, Bool.and_eq_true, decide_eq_true_eq]; omega
theorem sok_nz {l : List It} (h : sokB l = true) : Nz l := fun _ hr => (it_parts (sok_at h hr)).2.2.2.2.1
theorem sok_of {l : List It} (hl : l.length ≤ 400) (h : ∀ r ∈ l, itOkB r = true) (hs : Srt ltT l) : sokB l = true := sok_mk hl fun i hi => by
  have hr := List.getElem?_eq_getElem hi
  have h0 := h _ (List.getElem_mem hi)
  match i, hi, hr, h0 with
  | 0, hi, hr, h0 => rw [sstep_first hr]; exact h0
  | j + 1, hi, hr, h0 =>
    have hq := List.getElem?_eq_getElem (l := l) (i := j) (by omega)
    rw [sstep_next hr hq, Bool.and_eq_true]
    exact ⟨h0, List.pairwise_iff_getElem.1 hs j (j + 1) (by omega) hi (by omega)⟩
theorem sok_nil : sokB [] = true := by decide
def itK (s : Int × Int) : Prop := 0 ≤ s.1 ∧ s.1 ≤ 3 ∧ 0 ≤ s.2 ∧ s.2 ≤ 99
theorem sum_sok {l : List It} (hl : l.length ≤ 400) (h : ∀ r ∈ l, itK r.1) (ha : absum l ≤ 1099511627776) : sokB (sumL ltT l) = true :=
  sok_of (Nat.le_trans (sumL_len _ _) hl) (fun r hr => by
    obtain ⟨q, hq, e⟩ := sumL_key hr
    obtain ⟨h1, h2, h3, h4⟩ := h q hq
    have hb := sumL_abs ltT_ord hr
    rw [e] at h1 h2 h3 h4
    exact it_mk ⟨h1, h2, h3, h4, sumL_nz _ _ r hr, by omega, by omega⟩) (sumL_srt ltT_ord _)
theorem sok_k {l : List It} (h : sokB l = true) : ∀ r ∈ l, itK r.1 := fun r hr => by
  obtain ⟨h1, h2, h3, h4, _⟩ := it_parts (sok_at h hr); exact ⟨h1, h2, h3, h4⟩
theorem sok_abs {l : List It} (h : sokB l = true) : absum l ≤ 1099511627776 * 400 := by
  have h1 := absum_le (l := l) (c := 1099511627776) fun r hr => by have := it_parts (sok_at h hr); omega
  have h2 := sok_len h
  have : (1099511627776 : Int) * l.length ≤ 1099511627776 * 400 := by omega
  omega
def wayM (how : Int) (s : Int × Int) : Int × Int :=
  if how = 1 then (s.2 % 4, s.2 - s.2 % 4 + s.1) else if how = 2 then (s.1, (s.2 + 1) % 100) else if how = 3 then (s.2 % 4, s.2) else if how = 4 then (0, s.2) else s
def wayP (how : Int) (s : Int × Int) : Bool :=
  if how = 5 then decide (s.2 % 2 = 0) else if how = 6 then decide (s.1 % 2 = 0) else if how = 7 then decide (s.2 < 10) else true
def negI (l : List It) : List It := l.map fun r => (r.1, -r.2)
def pv (a b : Int) : Int := (10 * a + b) % 100
def onceT (l : List It) : List It := (l.filter fun r => decide (0 < r.2)).map fun r => (r.1, 1)
def onceS (l : List It) : List It := if sokB l then onceT l else []
def keyN (l : List It) (k : Int) : Int := wsum (fun s : Int × Int => if s.1 = k then 1 else 0) l
def countK (l : List It) (k : Int) : List It := if keyN l k = 0 then [] else [((k, keyN l k % 100), 1)]
def countS (l : List It) : List It := if sokB l then countK l 0 ++ countK l 1 ++ countK l 2 ++ countK l 3 else []
def leastK (l : List It) (k : Int) : List It := ((onceT l).filter fun r => decide (r.1.1 = k)).take 1
def leastS (l : List It) : List It := if sokB l then leastK l 0 ++ leastK l 1 ++ leastK l 2 ++ leastK l 3 else []
theorem neg_totI (l : List It) (s : Int × Int) : tot (negI l) s = - tot l s := tot_neg l s
end Go.Proofs.YtdbhgocaelmanaaGreat
namespace Go.Proofs.YtdbhgocaelmanaaGreat
theorem way_k {how : Int} {s : Int × Int} (h : itK s) : itK (wayM how s) := by
  obtain ⟨h1, h2, h3, h4⟩ := h
  unfold wayM itK
  split
  · simp only; omega
  · split
    · simp only; omega
    · split
      · simp only; omega
      · split
        · simp only; omega
        · exact ⟨h1, h2, h3, h4⟩
theorem sum_as {l m : List It} (h : sokB m = true) (ht : ∀ s, tot m s = tot l s) : sumL ltT l = m := (sumL_uniq ltT_ord (sok_srt h) (sok_nz h) ht).symm
end Go.Proofs.YtdbhgocaelmanaaGreat
namespace Go.Proofs.YtdbhgocaelmanaaGreat
theorem keyN_snoc (l : List It) (r : It) (k : Int) : keyN (l ++ [r]) k = keyN l k + (if r.1.1 = k then r.2 else 0) := by
  unfold keyN; rw [wsum_append]; simp only [wsum]; split <;> simp
theorem keyN_abs (l : List It) (k : Int) : -absum l ≤ keyN l k ∧ keyN l k ≤ absum l := by
  induction l with
  | nil => simp [keyN, wsum, absum]
  | cons r l ih =>
    unfold keyN at ih ⊢
    simp only [wsum, absum]
    split <;> simp only [Int.mul_one, Int.mul_zero] <;> omega
theorem countK_mem {l : List It} {k : Int} {r : It} (h : r ∈ countK l k) : r = ((k, keyN l k % 100), 1) ∧ keyN l k ≠ 0 := by
  unfold countK at h
  split at h
  · simp at h
  · exact ⟨by simpa using h, by assumption⟩
theorem countK_len (l : List It) (k : Int) : (countK l k).length ≤ 1 := by unfold countK; split <;> simp
theorem countS_no {l : List It} (h : sokB l = false) : countS l = [] := by simp [countS, h]
theorem countS_yes {l : List It} (h : sokB l = true) : countS l = countK l 0 ++ countK l 1 ++ countK l 2 ++ countK l 3 := by simp [countS, h]
theorem countS_len (l : List It) : (countS l).length ≤ 4 := by
  unfold countS; split
  · have := countK_len l 0; have := countK_len l 1; have := countK_len l 2; have := countK_len l 3
    simp only [List.length_append]; omega
  · simp
theorem countS_mem {l : List It} {r : It} (h : r ∈ countS l) : r.2 = 1 ∧ keyN l r.1.1 ≠ 0 ∧ r.1.2 = keyN l r.1.1 % 100 ∧ 0 ≤ r.1.1 ∧ r.1.1 ≤ 3 := by
  unfold countS at h
  split at h
  · simp only [List.mem_append] at h
    rcases h with ((h | h) | h) | h <;> obtain ⟨rfl, hn⟩ := countK_mem h <;> exact ⟨rfl, hn, rfl, by simp, by simp⟩
  · simp at h
theorem parts_pair {f : Int → List It} (h1 : ∀ k, ∀ r ∈ f k, r.1.1 = k) {R : It → It → Prop} (hR : ∀ k, (f k).Pairwise R) (hlt : ∀ p q : It, p.1.1 < q.1.1 → R p q) : (f 0 ++ f 1 ++ f 2 ++ f 3).Pairwise R := by
  have key : ∀ {p q : It} {a b : Int}, p ∈ f a → q ∈ f b → a < b → R p q := fun hp hq hab => hlt _ _ (by rw [h1 _ _ hp, h1 _ _ hq]; exact hab)
  rw [List.pairwise_append, List.pairwise_append, List.pairwise_append]
  refine ⟨⟨⟨hR 0, hR 1, fun p hp q hq => key hp hq (by omega)⟩, hR 2, fun p hp q hq => ?_⟩, hR 3, fun p hp q hq => ?_⟩
  · rcases List.mem_append.1 hp with hp | hp <;> exact key hp hq (by omega)
  · simp only [List.mem_append] at hp
    rcases hp with (hp | hp) | hp <;> exact key hp hq (by omega)
theorem countS_up (l : List It) : (countS l).Pairwise fun p q => p.1.1 < q.1.1 := by
  unfold countS; split
  · refine parts_pair (f := countK l) (fun k r hr => ?_) (fun k => ?_) (fun _ _ h => h)
    · rw [(countK_mem hr).1]
    · unfold countK; split <;> simp
  · simp
theorem ltT_key {p q : It} (h : p.1.1 < q.1.1) : ltT p.1 q.1 = true := by simp [ltT]; exact .inl h
theorem split_keys {l : List It} (hs : Srt ltT l) (hk : ∀ r ∈ l, 0 ≤ r.1.1 ∧ r.1.1 ≤ 3) :
    (l.filter fun r => decide (r.1.1 = 0)) ++ (l.filter fun r => decide (r.1.1 = 1)) ++ (l.filter fun r => decide (r.1.1 = 2)) ++ (l.filter fun r => decide (r.1.1 = 3)) = l := by
  refine srt_ext ltT_ord ?_ hs fun r => ?_
  · exact parts_pair (f := fun k => l.filter fun r => decide (r.1.1 = k)) (fun k r hr => by simpa using (List.mem_filter.1 hr).2) (fun k => List.Pairwise.filter _ hs) (fun _ _ h => ltT_key h)
  · simp only [List.mem_append, List.mem_filter, decide_eq_true_eq]
    constructor
    · rintro (((h | h) | h) | h) <;> exact h.1
    · intro h
      have := hk r h
      have e : r.1.1 = 0 ∨ r.1.1 = 1 ∨ r.1.1 = 2 ∨ r.1.1 = 3 := by omega
      rcases e with e | e | e | e
      · exact .inl (.inl (.inl ⟨h, e⟩))
      · exact .inl (.inl (.inr ⟨h, e⟩))
      · exact .inl (.inr ⟨h, e⟩)
      · exact .inr ⟨h, e⟩
theorem once_mem {l : List It} {r : It} : r ∈ onceT l ↔ r.2 = 1 ∧ ∃ q ∈ l, 0 < q.2 ∧ q.1 = r.1 := by
  unfold onceT
  simp only [List.mem_map, List.mem_filter, decide_eq_true_eq]
  constructor
  · rintro ⟨q, ⟨h1, h2⟩, rfl⟩; exact ⟨rfl, q, h1, h2, rfl⟩
  · rintro ⟨h1, q, h2, h3, h4⟩; exact ⟨q, ⟨h2, h3⟩, Prod.ext h4 h1.symm⟩
theorem once_srt {l : List It} (h : Srt ltT l) : Srt ltT (onceT l) := by
  unfold Srt onceT
  rw [List.pairwise_map]
  exact List.Pairwise.filter _ h
theorem once_len (l : List It) : (onceT l).length ≤ l.length := by unfold onceT; rw [List.length_map]; exact List.length_filter_le _ _
theorem once_sok {l : List It} (h : sokB l = true) : sokB (onceT l) = true :=
  sok_of (Nat.le_trans (once_len l) (sok_len h)) (fun r hr => by
    obtain ⟨h1, q, h2, h3, h4⟩ := once_mem.1 hr
    have := it_parts (sok_at h h2)
    rw [h4] at this
    exact it_mk (by omega)) (once_srt (sok_srt h))
theorem onceS_no {l : List It} (h : sokB l = false) : onceS l = [] := by simp [onceS, h]
theorem onceS_yes {l : List It} (h : sokB l = true) : onceS l = onceT l := by simp [onceS, h]
theorem onceS_len (l : List It) : (onceS l).length ≤ 400 := by
  unfold onceS; split
  · rename_i h; exact Nat.le_trans (once_len l) (sok_len h)
  · simp
theorem once_once (l : List It) : onceT (onceT l) = onceT l := by
  unfold onceT
  rw [List.filter_map, List.map_map]
  have e : List.filter ((fun r : It => decide (0 < r.2)) ∘ fun r : It => (r.1, (1 : Int))) (l.filter fun r => decide (0 < r.2)) = l.filter fun r => decide (0 < r.2) := by
    rw [List.filter_eq_self]; intro a _; simp
  rw [e]; rfl
theorem once_twice {l : List It} (h : sokB l = true) : onceS (onceS l) = onceS l := by
  rw [onceS_yes h, onceS_yes (once_sok h), once_once]
theorem once_keys {l : List It} (h : sokB l = true) : ∀ r ∈ onceT l, 0 ≤ r.1.1 ∧ r.1.1 ≤ 3 := fun r hr => by
  have := it_parts (sok_at (once_sok h) hr); omega
theorem take1_mem {l : List It} (hs : Srt ltT l) (r : It) : r ∈ l.take 1 ↔ r ∈ l ∧ ∀ q ∈ l, ltT q.1 r.1 = false := by
  cases l with
  | nil => simp
  | cons x l =>
    obtain ⟨hx, _⟩ := List.pairwise_cons.1 hs
    simp only [List.take_succ_cons, List.take_zero, List.mem_singleton]
    constructor
    · rintro rfl
      refine ⟨by simp, fun q hq => ?_⟩
      rcases List.mem_cons.1 hq with rfl | hq
      · exact ltT_ord.irr _
      · cases e : ltT q.1 r.1
        · rfl
        · have := ltT_ord.trans _ _ _ e (hx q hq); rw [ltT_ord.irr] at this; cases this
    · rintro ⟨h1, h2⟩
      rcases List.mem_cons.1 h1 with rfl | h1
      · rfl
      · have := h2 x (by simp); rw [hx r h1] at this; cases this
theorem leastK_mem {l : List It} (hs : Srt ltT l) (k : Int) (r : It) : r ∈ leastK l k ↔ r ∈ onceT l ∧ r.1.1 = k ∧ ∀ q ∈ onceT l, q.1.1 = k → ltT q.1 r.1 = false := by
  unfold leastK
  rw [take1_mem (List.Pairwise.filter _ (once_srt hs))]
  simp only [List.mem_filter, decide_eq_true_eq]
  constructor
  · rintro ⟨⟨h1, h2⟩, h3⟩; exact ⟨h1, h2, fun q hq e => h3 q ⟨hq, e⟩⟩
  · rintro ⟨h1, h2, h3⟩; exact ⟨⟨h1, h2⟩, fun q hq => h3 q hq.1 hq.2⟩
theorem leastK_len (l : List It) (k : Int) : (leastK l k).length ≤ 1 := by unfold leastK; rw [List.length_take]; omega
theorem leastK_pair {R : It → It → Prop} (l : List It) (k : Int) : (leastK l k).Pairwise R := by
  have := leastK_len l k
  generalize leastK l k = m at this
  match m, this with
  | [], _ => simp
  | [x], _ => simp
theorem leastS_no {l : List It} (h : sokB l = false) : leastS l = [] := by simp [leastS, h]
theorem leastS_yes {l : List It} (h : sokB l = true) : leastS l = leastK l 0 ++ leastK l 1 ++ leastK l 2 ++ leastK l 3 := by simp [leastS, h]
theorem leastS_len (l : List It) : (leastS l).length ≤ 4 := by
  unfold leastS; split
  · have := leastK_len l 0; have := leastK_len l 1; have := leastK_len l 2; have := leastK_len l 3
    simp only [List.length_append]; omega
  · simp
theorem leastS_mem {l : List It} (h : sokB l = true) (r : It) : r ∈ leastS l ↔ r ∈ onceT l ∧ ∀ q ∈ onceT l, q.1.1 = r.1.1 → ltT q.1 r.1 = false := by
  rw [leastS_yes h]
  have hs := sok_srt h
  simp only [List.mem_append, leastK_mem hs]
  constructor
  · rintro (((⟨h1, h2, h3⟩ | ⟨h1, h2, h3⟩) | ⟨h1, h2, h3⟩) | ⟨h1, h2, h3⟩) <;> exact ⟨h1, fun q hq e => h3 q hq (by omega)⟩
  · rintro ⟨h1, h2⟩
    have := once_keys h r h1
    have e : r.1.1 = 0 ∨ r.1.1 = 1 ∨ r.1.1 = 2 ∨ r.1.1 = 3 := by omega
    rcases e with e | e | e | e
    · exact .inl (.inl (.inl ⟨h1, e, fun q hq e' => h2 q hq (by omega)⟩))
    · exact .inl (.inl (.inr ⟨h1, e, fun q hq e' => h2 q hq (by omega)⟩))
    · exact .inl (.inr ⟨h1, e, fun q hq e' => h2 q hq (by omega)⟩)
    · exact .inr ⟨h1, e, fun q hq e' => h2 q hq (by omega)⟩
theorem leastS_up (l : List It) : (leastS l).Pairwise fun p q => p.1.1 < q.1.1 := by
  unfold leastS; split
  · refine parts_pair (f := leastK l) (fun k r hr => ?_) (fun k => leastK_pair l k) (fun _ _ h => h)
    unfold leastK at hr
    simpa using (List.mem_filter.1 (List.mem_of_mem_take hr)).2
  · simp
theorem up_srt {l : List It} (h : l.Pairwise fun p q => p.1.1 < q.1.1) : Srt ltT l := List.Pairwise.imp (fun hlt => ltT_key hlt) h
theorem leastS_sok {l : List It} (h : sokB l = true) : sokB (leastS l) = true :=
  sok_of (by have := leastS_len l; omega) (fun r hr => sok_at (once_sok h) ((leastS_mem h r).1 hr).1) (up_srt (leastS_up l))
theorem least_of {l m : List It} (h : sokB l = true) (hm : Srt ltT m) (he : ∀ r, r ∈ m ↔ r ∈ onceT l ∧ ∀ q ∈ onceT l, q.1.1 = r.1.1 → ltT q.1 r.1 = false) : m = leastS l :=
  srt_ext ltT_ord hm (up_srt (leastS_up l)) fun r => by rw [he, leastS_mem h]
theorem least_once {l : List It} (h : sokB l = true) : leastS (onceS l) = leastS l := by
  rw [onceS_yes h]
  refine (least_of h (up_srt (leastS_up _)) fun r => ?_)
  rw [leastS_mem (once_sok h), once_once]
theorem least_sub {l : List It} (h : sokB l = true) : onceT (leastS l) = leastS l := by
  refine srt_ext ltT_ord (once_srt (up_srt (leastS_up l))) (up_srt (leastS_up l)) fun r => ?_
  rw [once_mem]
  constructor
  · rintro ⟨h1, q, h2, h3, h4⟩
    have := (once_mem.1 ((leastS_mem h q).1 h2).1).1
    obtain rfl : q = r := Prod.ext h4 (by omega)
    exact h2
  · intro hr
    have := (once_mem.1 ((leastS_mem h r).1 hr).1).1
    exact ⟨this, r, hr, by omega, rfl⟩
theorem least_twice {l : List It} (h : sokB l = true) : leastS (leastS l) = leastS l := by
  refine (least_of (leastS_sok h) (up_srt (leastS_up l)) fun r => ?_).symm
  rw [least_sub h]
  constructor
  · exact fun hr => ⟨hr, fun q hq e => ((leastS_mem h r).1 hr).2 q ((leastS_mem h q).1 hq).1 e⟩
  · exact fun hr => hr.1
end Go.Proofs.YtdbhgocaelmanaaGreat
namespace Go.Proofs.YtdbhgocaelmanaaGreat
open Go.RowKit
def gI (l : List It) (j : Nat) : It := (l[j]?).getD ((0, 0), 0)
def kpI (l : List It) (j : Nat) : Bool := decide (j = 0 ∨ ¬ (gI l j).1.1 = (gI l (j - 1)).1.1)
def cpI (l : List It) (m : Nat) : List It := ((List.range m).filter (kpI l)).map (gI l)
theorem gI_at {l : List It} {j : Nat} (h : j < l.length) : l[j]? = some (gI l j) := by
  unfold gI; rw [List.getElem?_eq_getElem h]; rfl
theorem cpI_succ (l : List It) (m : Nat) : cpI l (m + 1) = cpI l m ++ (if kpI l m then [gI l m] else []) := by
  unfold cpI
  rw [List.range_succ, List.filter_append, List.map_append]
  congr 1
  by_cases h : kpI l m <;> simp [h]
theorem rangeI (l : List It) (m : Nat) (hm : m ≤ l.length) : (List.range m).map (gI l) = l.take m := by
  apply List.ext_getElem?
  intro i
  by_cases hi : i < m
  · rw [List.getElem?_take, if_pos hi, gI_at (show i < l.length by omega)]
    simp [hi]
  · rw [List.getElem?_take, if_neg hi, List.getElem?_eq_none (by simp; omega)]
theorem cpI_all {l : List It} {m : Nat} (hm : m ≤ l.length) (h : ∀ j, j < m → kpI l j = true) : cpI l m = l.take m := by
  unfold cpI
  rw [List.filter_eq_self.2 (fun j hj => h j (List.mem_range.1 hj)), rangeI l m hm]
theorem cpI_sub (l : List It) : (cpI l l.length).Sublist l := by
  have h : (cpI l l.length).Sublist ((List.range l.length).map (gI l)) := List.Sublist.map _ List.filter_sublist
  rw [rangeI l _ (Nat.le_refl _), List.take_length] at h
  exact h
theorem kpI_no {l : List It} {m : Nat} (hm : 0 < m) (h1 : (gI l m).1.1 = (gI l (m - 1)).1.1) : kpI l m = false := by
  have : m ≠ 0 := by omega
  simp [kpI, h1, this]
theorem kpI_one {l : List It} {j : Nat} (h : j < 1) : kpI l j = true := by
  have : j = 0 := by omega
  simp [kpI, this]
theorem kpI_yes {l : List It} {m : Nat} (h : ¬ (gI l m).1.1 = (gI l (m - 1)).1.1) : kpI l m = true := by
  unfold kpI; exact decide_eq_true (.inr h)
theorem cpI_mem (l : List It) (r : It) : r ∈ cpI l l.length ↔ ∃ j, j < l.length ∧ kpI l j = true ∧ l[j]? = some r := by
  unfold cpI
  rw [List.mem_map]
  constructor
  · rintro ⟨j, hj, rfl⟩
    obtain ⟨h1, h2⟩ := List.mem_filter.1 hj
    have := List.mem_range.1 h1
    exact ⟨j, this, h2, gI_at this⟩
  · rintro ⟨j, h1, h2, h3⟩
    refine ⟨j, List.mem_filter.2 ⟨List.mem_range.2 h1, h2⟩, ?_⟩
    rw [gI_at h1] at h3; exact Option.some.inj h3
theorem srt_get {l : List It} (h : Srt ltT l) {i j : Nat} {a b : It} (hij : i < j) (ha : l[i]? = some a) (hb : l[j]? = some b) : ltT a.1 b.1 = true := by
  obtain ⟨hi, e1⟩ := List.getElem?_eq_some_iff.1 ha
  obtain ⟨hj, e2⟩ := List.getElem?_eq_some_iff.1 hb
  have := (List.pairwise_iff_getElem.1 h) i j hi hj hij
  rw [e1, e2] at this; exact this
theorem cp_least {l : List It} (h : sokB l = true) : cpI (onceT l) (onceT l).length = leastS l := by
  have hs := once_srt (sok_srt h)
  refine least_of h (hs.sublist (cpI_sub _)) fun r => ?_
  rw [cpI_mem]
  generalize onceT l = o at *
  constructor
  · rintro ⟨j, hj, hk, hr⟩
    refine ⟨List.mem_of_getElem? hr, fun q hq e => ?_⟩
    obtain ⟨i, hi, e1⟩ := List.getElem_of_mem hq
    have hqi : o[i]? = some q := by rw [List.getElem?_eq_getElem hi, e1]
    by_cases hij : i < j
    · exfalso
      have hj0 : j ≠ 0 := by omega
      simp only [kpI, decide_eq_true_eq] at hk
      have hne := hk.resolve_left hj0
      have hp := gI_at (l := o) (j := j - 1) (by omega)
      have hgr : gI o j = r := by rw [gI_at hj] at hr; exact Option.some.inj hr
      have h1 := srt_get hs (show j - 1 < j by omega) hp hr
      rw [hgr] at hne
      by_cases h0 : i = j - 1
      · subst h0; rw [hqi] at hp; rw [← Option.some.inj hp] at hne; exact hne e.symm
      · have h2 := srt_get hs (show i < j - 1 by omega) hqi hp
        simp [ltT] at h1 h2
        omega
    · by_cases h0 : i = j
      · subst h0; rw [hr] at hqi; cases hqi; exact ltT_ord.irr _
      · have h1 := srt_get hs (show j < i by omega) hr hqi
        cases h2 : ltT q.1 r.1
        · rfl
        · have := ltT_ord.trans _ _ _ h1 h2; rw [ltT_ord.irr] at this; cases this
  · rintro ⟨hr, hall⟩
    obtain ⟨j, hj, e1⟩ := List.getElem_of_mem hr
    have hrj : o[j]? = some r := by rw [List.getElem?_eq_getElem hj, e1]
    refine ⟨j, hj, ?_, hrj⟩
    by_cases h0 : j = 0
    · exact kpI_one (by omega)
    · refine kpI_yes fun e => ?_
      have hp := gI_at (l := o) (j := j - 1) (by omega)
      have hgr : gI o j = r := by rw [gI_at hj] at hrj; exact Option.some.inj hrj
      rw [hgr] at e
      have h1 := srt_get hs (show j - 1 < j by omega) hp hrj
      have h2 := hall _ (List.mem_of_getElem? hp) e.symm
      rw [h2] at h1; cases h1
structure CpI (l : List It) (i j : Nat) (c : Array Value) : Prop where
  lt : i < j
  le : j ≤ l.length
  len : (cpI l j).length = i
  low : FillK itC 3 c (cpI l j) i
  high : ∀ m, i ≤ m → m < l.length → ∀ q, q < 3 → c[m * 3 + q]? = (itC (gI l m))[q]?
theorem CpI.start {l : List It} {k : Nat} {c : Array Value} (hk : k < l.length) (hno : kpI l k = false) (hyes : ∀ i, i < k → kpI l i = true) (hf : FillK itC 3 c l l.length) : CpI l k (k + 1) c := by
  have e : cpI l (k + 1) = l.take k := by
    rw [cpI_succ, hno, cpI_all (by omega) hyes]; simp
  refine ⟨by omega, hk, by rw [e, List.length_take]; omega, fun i x hi hx => ?_, fun m _ hm q hq => hf m _ hm (gI_at hm) q hq⟩
  rw [e, List.getElem?_take, if_pos hi] at hx
  exact hf i x (by omega) hx
theorem CpI.skip {l : List It} {i j : Nat} {c : Array Value} (h : CpI l i j c) (hj : j < l.length) (hy : kpI l j = false) : CpI l i (j + 1) c := by
  have e : cpI l (j + 1) = cpI l j := by rw [cpI_succ, hy]; simp
  exact ⟨by have := h.lt; omega, hj, by rw [e]; exact h.len, by rw [e]; exact h.low, h.high⟩
theorem CpI.keep {l : List It} {i j : Nat} {c : Array Value} {K V D : Int} (h : CpI l i j c) (hj : j < l.length) (hs : l.length * 3 ≤ c.size) (hy : kpI l j = true) (hg : gI l j = ((K, V), D)) :
    CpI l (i + 1) (j + 1) (((c.setIfInBounds (i * 3) (.int .i64 K)).setIfInBounds (i * 3 + 1) (.int .i64 V)).setIfInBounds (i * 3 + 2) (.int .i64 D)) := by
  have hlt := h.lt
  have hlen := h.len
  have e : cpI l (j + 1) = cpI l j ++ [((K, V), D)] := by rw [cpI_succ, hy, hg]; rfl
  refine ⟨by omega, hj, by rw [e, List.length_append]; simp [hlen], fun a x ha hx q hq => ?_, fun m a b q hq => ?_⟩
  · rw [e] at hx
    by_cases hai : a < i
    · rw [List.getElem?_append_left (by omega)] at hx
      rw [Array.getElem?_setIfInBounds, if_neg (by omega), Array.getElem?_setIfInBounds, if_neg (by omega), Array.getElem?_setIfInBounds, if_neg (by omega)]
      exact h.low a x hai hx q hq
    · obtain rfl : a = i := by omega
      rw [List.getElem?_append_right (by omega)] at hx
      simp [hlen] at hx
      subst hx
      obtain rfl | rfl | rfl : q = 0 ∨ q = 1 ∨ q = 2 := by omega
      · rw [Array.getElem?_setIfInBounds, if_neg (by omega), Array.getElem?_setIfInBounds, if_neg (by omega), Array.getElem?_setIfInBounds, if_pos (by omega), if_pos (by omega)]; rfl
      · rw [Array.getElem?_setIfInBounds, if_neg (by omega), Array.getElem?_setIfInBounds, if_pos (by omega), if_pos (by simp; omega)]; rfl
      · rw [Array.getElem?_setIfInBounds, if_pos (by omega), if_pos (by simp; omega)]; rfl
  · rw [Array.getElem?_setIfInBounds, if_neg (by omega), Array.getElem?_setIfInBounds, if_neg (by omega), Array.getElem?_setIfInBounds, if_neg (by omega)]
    exact h.high m (by omega) b q hq
end Go.Proofs.YtdbhgocaelmanaaGreat
