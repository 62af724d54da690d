/- Items that are ok, and what the functions on items answer, as functions of lists: plain facts. -/
import Derived.Test.YtjkojbafifbdgaaGreatGb1
import Derived.Test.YtjkojbafifbdgaaGreatGm1
import Derived.Test.YtjkojbafifbdgaaGreatGb3
import Derived.Deep.Cut
import Derived.Test.YtjkojbafifbdgaaGreatGs7
import Derived.Test.YtjkojbafifbdgaaGreatGs2
/-! Items that are ok, and what the functions on items answer, as functions of lists: plain facts. -/
namespace Go.Proofs.YtjkojbafifbdgaaGreat

/-- What an item must be like. -/
def itOkB (r : It) : Bool := inB r.1.1 0 3 && inB r.1.2 0 99 && decide (r.2 ≠ 0) && inB r.2 (-1099511627776) 1099511627776
/-- What place i of items must be like. -/
def sstep (l : List It) (i : Nat) : Bool :=
  match l[i]? with
  | none => true
  | some r => itOkB r && (match i with | 0 => true | j + 1 => match l[j]? with | none => true | some q => ltT q.1 r.1)
def sokB (l : List It) : Bool := decide (l.length ≤ 400) && (List.range l.length).all (sstep l)
theorem sok_len {l : List It} (h : sokB l = true) : l.length ≤ 400 := by simp [sokB] at h; exact h.1
theorem sok_no {l : List It} {i : Nat} (hi : i < l.length) (h : sstep l i = false) : sokB l = false := by
  unfold sokB
  have : (List.range l.length).all (sstep l) = false := by
    rw [List.all_eq_false]; exact ⟨i, by simpa using hi, by simp [h]⟩
  rw [this, Bool.and_false]
theorem sok_long {l : List It} (h : 400 < l.length) : sokB l = false := by simp [sokB]; omega
theorem sok_mk {l : List It} (h : l.length ≤ 400) (ha : ∀ i, i < l.length → sstep l i = true) : sokB l = true := by
  unfold sokB; rw [Bool.and_eq_true, List.all_eq_true]; exact ⟨by simpa using h, fun j hj => ha j (by simpa using hj)⟩
theorem sstep_first {l : List It} {r : It} (h : l[0]? = some r) : sstep l 0 = itOkB r := by unfold sstep; rw [h]; simp
theorem sstep_next {l : List It} {r q : It} {j : Nat} (h : l[j + 1]? = some r) (h' : l[j]? = some q) : sstep l (j + 1) = (itOkB r && ltT q.1 r.1) := by
  unfold sstep; rw [h]; simp [h']
theorem sok_st {l : List It} (h : sokB l = true) {i : Nat} (hi : i < l.length) : sstep l i = true := by
  simp only [sokB, Bool.and_eq_true, List.all_eq_true] at h
  exact h.2 i (by simpa using hi)
theorem sok_at {l : List It} (h : sokB l = true) {r : It} (hr : r ∈ l) : itOkB r = true := by
  obtain ⟨i, hi, e⟩ := List.getElem_of_mem hr
  have hs := sok_st h hi
  unfold sstep at hs
  rw [List.getElem?_eq_getElem hi, e] at hs
  simp only [Bool.and_eq_true] at hs
  exact hs.1
theorem srtT_of_steps {l : List It} (h : ∀ i r q, l[i + 1]? = some r → l[i]? = some q → ltT q.1 r.1 = true) : Srt ltT l := by
  have key : ∀ d i (h1 : i + d + 1 < l.length), ltT (l[i]'(by omega)).1 l[i + d + 1].1 = true := by
    intro d
    induction d with
    | zero => intro i h1; exact h i _ _ (List.getElem?_eq_getElem h1) (List.getElem?_eq_getElem (by omega))
    | succ d ih =>
      intro i h1
      exact ltT_ord.trans _ _ _ (ih i (by omega)) (h (i + d + 1) _ _ (List.getElem?_eq_getElem (by omega)) (List.getElem?_eq_getElem (by omega)))
  refine List.pairwise_iff_getElem.2 fun i j hi hj hij => ?_
  obtain ⟨d, rfl⟩ : ∃ d, j = i + d + 1 := ⟨j - i - 1, by omega⟩
  exact key d i hj
theorem sok_srt {l : List It} (h : sokB l = true) : Srt ltT l := srtT_of_steps fun i r q h1 h2 => by
  have := sok_st h (List.getElem?_eq_some_iff.1 h1).1
  rw [sstep_next h1 h2] at this
  simp at this
  exact this.2
theorem it_parts {r : It} (h : itOkB r = true) : 0 ≤ r.1.1 ∧ r.1.1 ≤ 3 ∧ 0 ≤ r.1.2 ∧ r.1.2 ≤ 99 ∧ r.2 ≠ 0 ∧ -1099511627776 ≤ r.2 ∧ r.2 ≤ 1099511627776 := by
  simp only [itOkB, inB, Bool.and_eq_true, decide_eq_true_eq] at h; omega
theorem it_mk {r : It} (h : 0 ≤ r.1.1 ∧ r.1.1 ≤ 3 ∧ 0 ≤ r.1.2 ∧ r.1.2 ≤ 99 ∧ r.2 ≠ 0 ∧ -1099511627776 ≤ r.2 ∧ r.2 ≤ 1099511627776) : itOkB r = true := by
  simp only [itOkB, inB, Bool.and_eq_true, decide_eq_true_eq]; omega
theorem sok_nz {l : List It} (h : sokB l = true) : Nz l := fun _ hr => (it_parts (sok_at h hr)).2.2.2.2.1
theorem sok_of {l : List It} (hl : l.length ≤ 400) (h : ∀ r ∈ l, itOkB r = true) (hs : Srt ltT l) : sokB l = true := sok_mk hl fun i hi => by
  have hr := List.getElem?_eq_getElem hi
  have h0 := h _ (List.getElem_mem hi)
  match i, hi, hr, h0 with
  | 0, hi, hr, h0 => rw [sstep_first hr]; exact h0
  | j + 1, hi, hr, h0 =>
    have hq := List.getElem?_eq_getElem (l := l) (i := j) (by omega)
    rw [sstep_next hr hq, Bool.and_eq_true]
    exact ⟨h0, List.pairwise_iff_getElem.1 hs j (j + 1) (by omega) hi (by omega)⟩
theorem sok_nil : sokB [] = true := by decide
theorem sok_self {l : List It} (h : sokB l = true) : sumL ltT l = l := sumL_self ltT_ord (sok_srt h) (sok_nz h)
/-- Where the sums are not too great, what is summed up is ok. -/
def itK (s : Int × Int) : Prop := 0 ≤ s.1 ∧ s.1 ≤ 3 ∧ 0 ≤ s.2 ∧ s.2 ≤ 99
theorem sum_sok {l : List It} (hl : l.length ≤ 400) (h : ∀ r ∈ l, itK r.1) (ha : absum l ≤ 1099511627776) : sokB (sumL ltT l) = true :=
  sok_of (Nat.le_trans (sumL_len _ _) hl) (fun r hr => by
    obtain ⟨q, hq, e⟩ := sumL_key hr
    obtain ⟨h1, h2, h3, h4⟩ := h q hq
    have hb := sumL_abs ltT_ord hr
    rw [e] at h1 h2 h3 h4
    exact it_mk ⟨h1, h2, h3, h4, sumL_nz _ _ r hr, by omega, by omega⟩) (sumL_srt ltT_ord _)
theorem sok_k {l : List It} (h : sokB l = true) : ∀ r ∈ l, itK r.1 := fun r hr => by
  obtain ⟨h1, h2, h3, h4, _⟩ := it_parts (sok_at h hr); exact ⟨h1, h2, h3, h4⟩
theorem sok_abs {l : List It} (h : sokB l = true) : absum l ≤ 1099511627776 * 400 := by
  have h1 := absum_le (l := l) (c := 1099511627776) fun r hr => by have := it_parts (sok_at h hr); omega
  have h2 := sok_len h
  have : (1099511627776 : Int) * l.length ≤ 1099511627776 * 400 := by omega
  omega

/-! ### What the functions answer -/
/-- What a way makes of a thing, and whether it keeps it. -/
def wayM (how : Int) (s : Int × Int) : Int × Int :=
  if how = 1 then (s.2 % 4, s.2 - s.2 % 4 + s.1) else if how = 2 then (s.1, (s.2 + 1) % 100) else if how = 3 then (s.2 % 4, s.2) else if how = 4 then (0, s.2) else s
def wayP (how : Int) (s : Int × Int) : Bool :=
  if how = 5 then decide (s.2 % 2 = 0) else if how = 6 then decide (s.1 % 2 = 0) else if how = 7 then decide (s.2 < 10) else true
def eachT (how : Int) (l : List It) : List It := (l.filter fun r => wayP how r.1).map fun r => (wayM how r.1, r.2)
def eachS (l : List It) (how : Int) : List It := if sokB l && inB how 1 7 then sumL ltT (eachT how l) else []
def bothS (s t : List It) : List It := if sokB s && sokB t then sumL ltT (s ++ t) else []
def negI (l : List It) : List It := l.map fun r => (r.1, -r.2)
def lessS (l : List It) : List It := if sokB l then negI l else []
def pv (a b : Int) : Int := (10 * a + b) % 100
def pairT (s t : List It) : List It := s.flatMap fun x => (t.filter fun y => decide (x.1.1 = y.1.1)).map fun y => ((x.1.1, pv x.1.2 y.1.2), x.2 * y.2)
def joinS (s t : List It) : List It := if sokB s && sokB t then sumL ltT (pairT s t) else []
def onceT (l : List It) : List It := (l.filter fun r => decide (0 < r.2)).map fun r => (r.1, 1)
def onceS (l : List It) : List It := if sokB l then onceT l else []
/-- All Counts of a Key together. -/
def keyN (l : List It) (k : Int) : Int := wsum (fun s : Int × Int => if s.1 = k then 1 else 0) l
def countK (l : List It) (k : Int) : List It := if keyN l k = 0 then [] else [((k, keyN l k % 100), 1)]
def countS (l : List It) : List It := if sokB l then countK l 0 ++ countK l 1 ++ countK l 2 ++ countK l 3 else []
def leastK (l : List It) (k : Int) : List It := ((onceT l).filter fun r => decide (r.1.1 = k)).take 1
def leastS (l : List It) : List It := if sokB l then leastK l 0 ++ leastK l 1 ++ leastK l 2 ++ leastK l 3 else []

theorem each_tot (how : Int) (l : List It) (s : Int × Int) : tot (eachT how l) s = wsum (fun x => if wayP how x = true ∧ wayM how x = s then 1 else 0) l := tot_some (wayP how) (wayM how) l s
theorem neg_totI (l : List It) (s : Int × Int) : tot (negI l) s = - tot l s := tot_neg l s
theorem wsum_neg {K : Type} (g : K → Int) (l : List (K × Int)) : wsum g (l.map fun r => (r.1, -r.2)) = - wsum g l := by
  induction l with
  | nil => rfl
  | cons r l ih => simp only [List.map_cons, wsum, ih, Int.neg_mul]; omega
theorem wsum_add {K : Type} (g h : K → Int) (l : List (K × Int)) : wsum (fun x => g x + h x) l = wsum g l + wsum h l := by
  induction l with
  | nil => rfl
  | cons r l ih => simp only [wsum, ih, Int.mul_add]; omega
theorem wsum_opp {K : Type} (g : K → Int) (l : List (K × Int)) : wsum (fun x => - g x) l = - wsum g l := by
  induction l with
  | nil => rfl
  | cons r l ih => simp only [wsum, ih, Int.mul_neg]; omega
def pairG (z : Int × Int) (x y : Int × Int) : Int := if x.1 = y.1 ∧ (x.1, pv x.2 y.2) = z then 1 else 0
theorem pair_one (x : It) (t : List It) (z : Int × Int) : tot ((t.filter fun y => decide (x.1.1 = y.1.1)).map fun y => ((x.1.1, pv x.1.2 y.1.2), x.2 * y.2)) z = x.2 * wsum (pairG z x.1) t := by
  induction t with
  | nil => simp [tot, wsum]
  | cons y t ih =>
    rw [List.filter_cons]
    by_cases h : x.1.1 = y.1.1
    · simp only [h, decide_true, if_true, List.map_cons, tot, wsum]
      rw [← h, ih]
      unfold pairG
      by_cases e : (x.1.1, pv x.1.2 y.1.2) = z
      · rw [if_pos e, if_pos ⟨h, e⟩, Int.mul_add]; simp
      · rw [if_neg e, if_neg (fun c => e c.2), Int.mul_add]; simp
    · rw [if_neg (by simpa using h), ih, wsum]
      have : pairG z x.1 y.1 = 0 := if_neg fun c => h c.1
      rw [this]; simp
theorem pair_tot (s t : List It) (z : Int × Int) : tot (pairT s t) z = wsum (fun x => wsum (pairG z x) t) s := by
  induction s with
  | nil => rfl
  | cons x s ih =>
    show tot (_ ++ pairT s t) z = _
    rw [tot_append, ih, pair_one]; rfl
end Go.Proofs.YtjkojbafifbdgaaGreat

/-! What the functions on items make of one another: plain facts. -/
namespace Go.Proofs.YtjkojbafifbdgaaGreat

theorem each_wsum (how : Int) (g : Int × Int → Int) (l : List It) : wsum g (eachT how l) = wsum (fun x => if wayP how x = true then g (wayM how x) else 0) l := by
  induction l with
  | nil => rfl
  | cons r l ih =>
    unfold eachT at ih ⊢
    rw [List.filter_cons]
    by_cases h : wayP how r.1 = true
    · simp only [h, if_true, List.map_cons, wsum, ih]
    · rw [if_neg h, ih]; simp only [wsum]; rw [if_neg h]; simp
theorem each_abs (how : Int) (l : List It) : absum (eachT how l) ≤ absum l := by
  induction l with
  | nil => simp [eachT]
  | cons r l ih =>
    unfold eachT at ih ⊢
    rw [List.filter_cons]
    by_cases h : wayP how r.1 = true
    · simp only [h, if_true, List.map_cons, absum]; omega
    · rw [if_neg h]; simp only [absum]; omega
theorem each_len (how : Int) (l : List It) : (eachT how l).length ≤ l.length := by
  unfold eachT; rw [List.length_map]; exact List.length_filter_le _ _
theorem way_k {how : Int} {s : Int × Int} (h : itK s) : itK (wayM how s) := by
  obtain ⟨h1, h2, h3, h4⟩ := h
  unfold wayM itK
  split
  · simp only; omega
  · split
    · simp only; omega
    · split
      · simp only; omega
      · split
        · simp only; omega
        · exact ⟨h1, h2, h3, h4⟩
theorem each_k {how : Int} {l : List It} (h : ∀ r ∈ l, itK r.1) : ∀ r ∈ eachT how l, itK r.1 := fun r hr => by
  unfold eachT at hr
  obtain ⟨q, hq, rfl⟩ := List.mem_map.1 hr
  exact way_k (h q (List.mem_filter.1 hq).1)
theorem each_no1 {l : List It} {how : Int} (h : sokB l = false) : eachS l how = [] := by simp [eachS, h]
theorem each_no2 {l : List It} {how : Int} (h : inB how 1 7 = false) : eachS l how = [] := by simp [eachS, h]
theorem each_yes {l : List It} {how : Int} (h : sokB l = true) (h' : inB how 1 7 = true) : eachS l how = sumL ltT (eachT how l) := by simp [eachS, h, h']
theorem each_lenS (l : List It) (how : Int) : (eachS l how).length ≤ 400 := by
  unfold eachS; split
  · rename_i h
    rw [Bool.and_eq_true] at h
    exact Nat.le_trans (sumL_len _ _) (Nat.le_trans (each_len _ _) (sok_len h.1))
  · simp
theorem each_sok {l : List It} {how : Int} (h : sokB l = true) (ha : absum l ≤ 1099511627776) : sokB (eachS l how) = true := by
  unfold eachS; split
  · exact sum_sok (Nat.le_trans (each_len _ _) (sok_len h)) (each_k (sok_k h)) (Int.le_trans (each_abs _ _) ha)
  · exact sok_nil
theorem sum_as {l m : List It} (h : sokB m = true) (ht : ∀ s, tot m s = tot l s) : sumL ltT l = m := (sumL_uniq ltT_ord (sok_srt h) (sok_nz h) ht).symm
theorem swap_twice {x : Int × Int} (h : itK x) : wayM 1 (wayM 1 x) = x := by
  obtain ⟨h1, h2, h3, h4⟩ := h
  simp only [wayM, if_true]
  exact Prod.ext (by simp only; omega) (by simp only; omega)
theorem swap_all {s : List It} (h : sokB s = true) (ha : absum s ≤ 1099511627776) : eachS (eachS s 1) 1 = s := by
  have hs := each_sok (how := 1) h ha
  rw [each_yes hs (by decide), each_yes h (by decide)]
  refine sum_as h fun z => ?_
  rw [each_tot, sumL_wsum ltT_ord, each_wsum, tot_eq_wsum]
  refine wsum_congr fun r hr => ?_
  have e := swap_twice (sok_k h r hr)
  simp only [wayP]
  simp [e]
theorem keep_m {how : Int} (h : 5 ≤ how) (s : Int × Int) : wayM how s = s := by
  unfold wayM
  rw [if_neg (by omega), if_neg (by omega), if_neg (by omega), if_neg (by omega)]
theorem keep_t {how : Int} (h : 5 ≤ how) (l : List It) : eachT how l = l.filter fun r => wayP how r.1 := by
  unfold eachT
  conv => rhs; rw [← List.map_id (l.filter _)]
  exact List.map_congr_left fun r _ => Prod.ext (keep_m h r.1) rfl
theorem filter_sok {l : List It} (p : It → Bool) (h : sokB l = true) : sokB (l.filter p) = true :=
  sok_of (Nat.le_trans (List.length_filter_le _ _) (sok_len h)) (fun _ hr => sok_at h (List.mem_filter.1 hr).1) (List.Pairwise.filter _ (sok_srt h))
theorem keep_s {how : Int} (h5 : 5 ≤ how) (h7 : how ≤ 7) {l : List It} (h : sokB l = true) : eachS l how = l.filter fun r => wayP how r.1 := by
  rw [each_yes h (by simp [inB]; omega), keep_t h5]; exact sok_self (filter_sok _ h)
theorem keep_twice {how : Int} (h5 : 5 ≤ how) (h7 : how ≤ 7) {l : List It} (h : sokB l = true) : eachS (eachS l how) how = eachS l how := by
  rw [keep_s h5 h7 h, keep_s h5 h7 (filter_sok _ h)]
  simp [List.filter_filter]
theorem keep_mem {how : Int} (h5 : 5 ≤ how) (h7 : how ≤ 7) {l : List It} (h : sokB l = true) {r : It} (hr : r ∈ eachS l how) : r ∈ l := by
  rw [keep_s h5 h7 h] at hr; exact (List.mem_filter.1 hr).1
theorem bothS_no1 {s t : List It} (h : sokB s = false) : bothS s t = [] := by simp [bothS, h]
theorem bothS_no2 {s t : List It} (h : sokB t = false) : bothS s t = [] := by simp [bothS, h]
theorem bothS_yes {s t : List It} (h : sokB s = true) (h' : sokB t = true) : bothS s t = sumL ltT (s ++ t) := by simp [bothS, h, h']
theorem bothS_len (s t : List It) : (bothS s t).length ≤ 800 := by
  unfold bothS; split
  · rename_i h
    rw [Bool.and_eq_true] at h
    have h1 := sok_len h.1
    have h2 := sok_len h.2
    have h3 := sumL_len ltT (s ++ t)
    rw [List.length_append] at h3
    omega
  · simp
theorem bothS_comm (s t : List It) : bothS t s = bothS s t := by
  unfold bothS
  rw [Bool.and_comm, sumL_congr ltT_ord (l := t ++ s) (m := s ++ t) (fun z => by rw [tot_append, tot_append]; omega)]
theorem bothS_nil {s : List It} (h : sokB s = true) : bothS s [] = s := by
  rw [bothS_yes h sok_nil, List.append_nil]; exact sok_self h
theorem app_k {s t : List It} (h : ∀ r ∈ s, itK r.1) (h' : ∀ r ∈ t, itK r.1) : ∀ r ∈ s ++ t, itK r.1 := fun r hr => by
  rcases List.mem_append.1 hr with hr | hr
  · exact h r hr
  · exact h' r hr
theorem bothS_sok {s t : List It} (h : sokB s = true) (h' : sokB t = true) (hl : s.length + t.length ≤ 400) (ha : absum s + absum t ≤ 1099511627776) : sokB (bothS s t) = true := by
  rw [bothS_yes h h']
  exact sum_sok (by rw [List.length_append]; exact hl) (app_k (sok_k h) (sok_k h')) (by rw [absum_append]; exact ha)
theorem neg_sok {l : List It} (h : sokB l = true) : sokB (negI l) = true := by
  refine sok_of (by simp [negI]; exact sok_len h) (fun r hr => ?_) ?_
  · obtain ⟨q, hq, rfl⟩ := List.mem_map.1 hr
    have := it_parts (sok_at h hq)
    exact it_mk (by simp only; omega)
  · unfold Srt negI
    rw [List.pairwise_map]
    exact sok_srt h
theorem neg_neg (l : List It) : negI (negI l) = l := by
  unfold negI
  rw [List.map_map]
  conv => rhs; rw [← List.map_id l]
  exact List.map_congr_left fun r _ => Prod.ext rfl (by simp)
theorem lessS_yes {l : List It} (h : sokB l = true) : lessS l = negI l := by simp [lessS, h]
theorem lessS_no {l : List It} (h : sokB l = false) : lessS l = [] := by simp [lessS, h]
theorem lessS_len (l : List It) : (lessS l).length ≤ 400 := by
  unfold lessS; split
  · rename_i h; simp [negI]; exact sok_len h
  · simp
theorem less_twice {l : List It} (h : sokB l = true) : lessS (lessS l) = l := by rw [lessS_yes h, lessS_yes (neg_sok h), neg_neg]
theorem sum_none {l : List It} (h : ∀ s, tot l s = 0) : sumL ltT l = [] := (sumL_uniq ltT_ord (m := []) (by simp [Srt]) (fun r hr => by simp at hr) (fun s => by rw [h]; rfl)).symm
theorem less_both {l : List It} (h : sokB l = true) : bothS l (lessS l) = [] := by
  rw [lessS_yes h, bothS_yes h (neg_sok h)]
  exact sum_none fun z => by rw [tot_append, neg_totI]; omega
theorem each_both {s t : List It} {how : Int} (hw : inB how 1 7 = true) (h : sokB s = true) (h' : sokB t = true) (hl : s.length + t.length ≤ 400) (ha : absum s + absum t ≤ 1099511627776) :
    eachS (bothS s t) how = bothS (eachS s how) (eachS t how) := by
  have p1 := absum_pos s
  have p2 := absum_pos t
  rw [each_yes (bothS_sok h h' hl ha) hw, bothS_yes (each_sok h (by omega)) (each_sok h' (by omega)), bothS_yes h h', each_yes h hw, each_yes h' hw]
  refine sumL_congr ltT_ord fun z => ?_
  rw [each_tot, sumL_wsum ltT_ord, wsum_append, tot_append, sumL_tot ltT_ord, sumL_tot ltT_ord, each_tot, each_tot]
theorem joinS_no1 {s t : List It} (h : sokB s = false) : joinS s t = [] := by simp [joinS, h]
theorem joinS_no2 {s t : List It} (h : sokB t = false) : joinS s t = [] := by simp [joinS, h]
theorem joinS_yes {s t : List It} (h : sokB s = true) (h' : sokB t = true) : joinS s t = sumL ltT (pairT s t) := by simp [joinS, h, h']
theorem pair_len (s t : List It) : (pairT s t).length ≤ s.length * t.length := by
  induction s with
  | nil => simp [pairT]
  | cons x s ih =>
    show (_ ++ pairT s t).length ≤ _
    rw [List.length_append, List.length_map, List.length_cons, Nat.add_mul]
    have := List.length_filter_le (fun y : It => decide (x.1.1 = y.1.1)) t
    omega
theorem pair_mem {s t : List It} {r : It} (h : r ∈ pairT s t) : ∃ x ∈ s, ∃ y ∈ t, x.1.1 = y.1.1 ∧ r = ((x.1.1, pv x.1.2 y.1.2), x.2 * y.2) := by
  unfold pairT at h
  obtain ⟨x, hx, h⟩ := List.mem_flatMap.1 h
  obtain ⟨y, hy, rfl⟩ := List.mem_map.1 h
  obtain ⟨hy, e⟩ := List.mem_filter.1 hy
  exact ⟨x, hx, y, hy, by simpa using e, rfl⟩
theorem pair_k {s t : List It} (h : ∀ r ∈ s, itK r.1) : ∀ r ∈ pairT s t, itK r.1 := fun r hr => by
  obtain ⟨x, hx, y, _, _, rfl⟩ := pair_mem hr
  obtain ⟨h1, h2, _⟩ := h x hx
  refine ⟨h1, h2, ?_, ?_⟩ <;> simp only [pv] <;> omega
theorem abs_one (x : It) (t : List It) : absum ((t.filter fun y => decide (x.1.1 = y.1.1)).map fun y => ((x.1.1, pv x.1.2 y.1.2), x.2 * y.2)) ≤ (x.2.natAbs : Int) * absum t := by
  induction t with
  | nil => simp [absum]
  | cons y t ih =>
    rw [List.filter_cons]
    have hp : (0 : Int) ≤ (x.2.natAbs : Int) * (y.2.natAbs : Int) := Int.mul_nonneg (by omega) (by omega)
    by_cases h : x.1.1 = y.1.1
    · simp only [h, decide_true, if_true, List.map_cons, absum]
      rw [← h, Int.mul_add, Int.natAbs_mul]
      have : ((x.2.natAbs * y.2.natAbs : Nat) : Int) = (x.2.natAbs : Int) * (y.2.natAbs : Int) := by simp
      omega
    · rw [if_neg (by simpa using h)]
      simp only [absum, Int.mul_add]
      omega
theorem pair_abs (s t : List It) : absum (pairT s t) ≤ absum s * absum t := by
  induction s with
  | nil => simp [pairT, absum]
  | cons x s ih =>
    show absum (_ ++ pairT s t) ≤ _
    rw [absum_append]
    have := abs_one x t
    simp only [absum, Int.add_mul]
    omega
theorem pair_small {s t : List It} {c : Int} (h1 : absum s ≤ c) (h2 : absum t ≤ c) : absum (pairT s t) ≤ c * c := by
  have h3 := pair_abs s t
  have h4 : absum s * absum t ≤ c * absum t := Int.mul_le_mul_of_nonneg_right h1 (absum_pos t)
  have h5 : c * absum t ≤ c * c := Int.mul_le_mul_of_nonneg_left h2 (Int.le_trans (absum_pos s) h1)
  omega
theorem joinS_sok {s t : List It} (h : sokB s = true) (h' : sokB t = true) (hl : s.length * t.length ≤ 400) {c : Int} (h1 : absum s ≤ c) (h2 : absum t ≤ c) (hc : c * c ≤ 1099511627776) : sokB (joinS s t) = true := by
  rw [joinS_yes h h']
  exact sum_sok (Nat.le_trans (pair_len s t) hl) (pair_k (sok_k h)) (Int.le_trans (pair_small h1 h2) hc)
/-- What is summed up has no more, of everything. -/
theorem abs_filter (l : List It) (p : It → Bool) : absum (l.filter p) ≤ absum l := by
  induction l with
  | nil => simp
  | cons r l ih =>
    rw [List.filter_cons]
    split
    · simp only [absum]; omega
    · simp only [absum]; omega
theorem put_abs (r : It) (l : List It) : absum (putL ltT r l) ≤ r.2.natAbs + absum l := by
  induction l with
  | nil => simp [putL, absum]
  | cons x l ih =>
    unfold putL
    by_cases h1 : ltT r.1 x.1 = true
    · rw [if_pos h1]; simp only [absum]; omega
    · rw [if_neg h1]
      by_cases h2 : ltT x.1 r.1 = true
      · rw [if_pos h2]; simp only [absum]; omega
      · rw [if_neg h2]; simp only [absum]; omega
theorem sumA_absI (l : List It) : absum (sumA ltT l) ≤ absum l := by
  induction l using snoc_ind with
  | h0 => simp [sumA]
  | h1 l r ih =>
    rw [sumA_snoc, absum_append]
    have := put_abs r (sumA ltT l)
    simp only [absum]
    omega
theorem sum_absI (l : List It) : absum (sumL ltT l) ≤ absum l := Int.le_trans (abs_filter _ _) (sumA_absI l)
theorem bothS_abs (s t : List It) : absum (bothS s t) ≤ absum s + absum t := by
  unfold bothS; split
  · rw [← absum_append]; exact sum_absI _
  · have := absum_pos s; have := absum_pos t; simp only [absum]; omega
theorem bothS_len2 (s t : List It) : (bothS s t).length ≤ s.length + t.length := by
  unfold bothS; split
  · rw [← List.length_append]; exact sumL_len _ _
  · simp
theorem join_left {s u t : List It} (hs : sokB s = true) (hu : sokB u = true) (ht : sokB t = true) (ls : s.length ≤ 9) (lu : u.length ≤ 9) (lt' : t.length ≤ 9) (as' : absum s ≤ 300) (au : absum u ≤ 300) (at' : absum t ≤ 300) :
    joinS (bothS s u) t = bothS (joinS s t) (joinS u t) := by
  have p1 : s.length * t.length ≤ 400 := Nat.le_trans (Nat.mul_le_mul ls lt') (by omega)
  have p2 : u.length * t.length ≤ 400 := Nat.le_trans (Nat.mul_le_mul lu lt') (by omega)
  rw [joinS_yes (bothS_sok hs hu (by omega) (by omega)) ht, bothS_yes (joinS_sok (c := 300) hs ht p1 as' at' (by omega)) (joinS_sok (c := 300) hu ht p2 au at' (by omega)), bothS_yes hs hu, joinS_yes hs ht, joinS_yes hu ht]
  refine sumL_congr ltT_ord fun z => ?_
  rw [pair_tot, sumL_wsum ltT_ord, wsum_append, tot_append, sumL_tot ltT_ord, sumL_tot ltT_ord, pair_tot, pair_tot]
theorem join_right {s u t : List It} (hs : sokB s = true) (hu : sokB u = true) (ht : sokB t = true) (ls : s.length ≤ 9) (lu : u.length ≤ 9) (lt' : t.length ≤ 9) (as' : absum s ≤ 300) (au : absum u ≤ 300) (at' : absum t ≤ 300) :
    joinS s (bothS t u) = bothS (joinS s t) (joinS s u) := by
  have p1 : s.length * t.length ≤ 400 := Nat.le_trans (Nat.mul_le_mul ls lt') (by omega)
  have p2 : s.length * u.length ≤ 400 := Nat.le_trans (Nat.mul_le_mul ls lu) (by omega)
  rw [joinS_yes hs (bothS_sok ht hu (by omega) (by omega)), bothS_yes (joinS_sok (c := 300) hs ht p1 as' at' (by omega)) (joinS_sok (c := 300) hs hu p2 as' au (by omega)), bothS_yes ht hu, joinS_yes hs ht, joinS_yes hs hu]
  refine sumL_congr ltT_ord fun z => ?_
  rw [pair_tot, tot_append, sumL_tot ltT_ord, sumL_tot ltT_ord, pair_tot, pair_tot, ← wsum_add]
  refine wsum_congr fun r _ => ?_
  rw [sumL_wsum ltT_ord, wsum_append]
theorem neg_abs1 (l : List It) : absum (negI l) = absum l := by
  induction l with
  | nil => rfl
  | cons r l ih => unfold negI at ih ⊢; simp only [List.map_cons, absum, ih]; omega
theorem join_less1 {s t : List It} (hs : sokB s = true) (ht : sokB t = true) (ls : s.length ≤ 9) (lt' : t.length ≤ 9) (as' : absum s ≤ 300) (at' : absum t ≤ 300) : joinS (lessS s) t = lessS (joinS s t) := by
  have p1 : s.length * t.length ≤ 400 := Nat.le_trans (Nat.mul_le_mul ls lt') (by omega)
  have hj := joinS_sok (c := 300) hs ht p1 as' at' (by omega)
  rw [lessS_yes hj, lessS_yes hs, joinS_yes (neg_sok hs) ht]
  refine sum_as (neg_sok hj) fun z => ?_
  rw [neg_totI, joinS_yes hs ht, sumL_tot ltT_ord, pair_tot, pair_tot]
  unfold negI
  rw [wsum_neg]
theorem join_less2 {s t : List It} (hs : sokB s = true) (ht : sokB t = true) (ls : s.length ≤ 9) (lt' : t.length ≤ 9) (as' : absum s ≤ 300) (at' : absum t ≤ 300) : joinS s (lessS t) = lessS (joinS s t) := by
  have p1 : s.length * t.length ≤ 400 := Nat.le_trans (Nat.mul_le_mul ls lt') (by omega)
  have hj := joinS_sok (c := 300) hs ht p1 as' at' (by omega)
  rw [lessS_yes hj, lessS_yes ht, joinS_yes hs (neg_sok ht)]
  refine sum_as (neg_sok hj) fun z => ?_
  rw [neg_totI, joinS_yes hs ht, sumL_tot ltT_ord, pair_tot, pair_tot, ← wsum_opp]
  refine wsum_congr fun r _ => ?_
  unfold negI
  rw [wsum_neg]
theorem join_keys {s t : List It} {r : It} (h : r ∈ joinS s t) : (∃ x ∈ s, x.1.1 = r.1.1) ∧ ∃ y ∈ t, y.1.1 = r.1.1 := by
  unfold joinS at h
  split at h
  · obtain ⟨q, hq, e⟩ := sumL_key h
    obtain ⟨x, hx, y, hy, e1, rfl⟩ := pair_mem hq
    simp only at e
    exact ⟨⟨x, hx, by rw [← e]⟩, ⟨y, hy, by rw [← e, ← e1]⟩⟩
  · simp at h
theorem join_nil2 (s : List It) : joinS s [] = [] := by
  unfold joinS; split
  · have : pairT s [] = [] := by unfold pairT; simp
    rw [this]; rfl
  · rfl
theorem join_nil1 (t : List It) : joinS [] t = [] := by
  unfold joinS; split <;> rfl
theorem joinS_len {s t : List It} (hl : s.length * t.length ≤ 400) : (joinS s t).length ≤ 400 := by
  unfold joinS; split
  · exact Nat.le_trans (sumL_len _ _) (Nat.le_trans (pair_len s t) hl)
  · simp
end Go.Proofs.YtjkojbafifbdgaaGreat

/-! Counts, what is there once, and the least, of items: plain facts. -/
namespace Go.Proofs.YtjkojbafifbdgaaGreat

theorem keyN_nil (k : Int) : keyN [] k = 0 := rfl
theorem keyN_snoc (l : List It) (r : It) (k : Int) : keyN (l ++ [r]) k = keyN l k + (if r.1.1 = k then r.2 else 0) := by
  unfold keyN; rw [wsum_append]; simp only [wsum]; split <;> simp
theorem keyN_abs (l : List It) (k : Int) : -absum l ≤ keyN l k ∧ keyN l k ≤ absum l := by
  induction l with
  | nil => simp [keyN, wsum, absum]
  | cons r l ih =>
    unfold keyN at ih ⊢
    simp only [wsum, absum]
    split <;> simp only [Int.mul_one, Int.mul_zero] <;> omega
theorem countK_mem {l : List It} {k : Int} {r : It} (h : r ∈ countK l k) : r = ((k, keyN l k % 100), 1) ∧ keyN l k ≠ 0 := by
  unfold countK at h
  split at h
  · simp at h
  · exact ⟨by simpa using h, by assumption⟩
theorem countK_len (l : List It) (k : Int) : (countK l k).length ≤ 1 := by unfold countK; split <;> simp
theorem countS_no {l : List It} (h : sokB l = false) : countS l = [] := by simp [countS, h]
theorem countS_yes {l : List It} (h : sokB l = true) : countS l = countK l 0 ++ countK l 1 ++ countK l 2 ++ countK l 3 := by simp [countS, h]
theorem countS_len (l : List It) : (countS l).length ≤ 4 := by
  unfold countS; split
  · have := countK_len l 0; have := countK_len l 1; have := countK_len l 2; have := countK_len l 3
    simp only [List.length_append]; omega
  · simp
theorem countS_mem {l : List It} {r : It} (h : r ∈ countS l) : r.2 = 1 ∧ keyN l r.1.1 ≠ 0 ∧ r.1.2 = keyN l r.1.1 % 100 ∧ 0 ≤ r.1.1 ∧ r.1.1 ≤ 3 := by
  unfold countS at h
  split at h
  · simp only [List.mem_append] at h
    rcases h with ((h | h) | h) | h <;> obtain ⟨rfl, hn⟩ := countK_mem h <;> exact ⟨rfl, hn, rfl, by simp, by simp⟩
  · simp at h
theorem parts_pair {f : Int → List It} (h1 : ∀ k, ∀ r ∈ f k, r.1.1 = k) {R : It → It → Prop} (hR : ∀ k, (f k).Pairwise R) (hlt : ∀ p q : It, p.1.1 < q.1.1 → R p q) : (f 0 ++ f 1 ++ f 2 ++ f 3).Pairwise R := by
  have key : ∀ {p q : It} {a b : Int}, p ∈ f a → q ∈ f b → a < b → R p q := fun hp hq hab => hlt _ _ (by rw [h1 _ _ hp, h1 _ _ hq]; exact hab)
  rw [List.pairwise_append, List.pairwise_append, List.pairwise_append]
  refine ⟨⟨⟨hR 0, hR 1, fun p hp q hq => key hp hq (by omega)⟩, hR 2, fun p hp q hq => ?_⟩, hR 3, fun p hp q hq => ?_⟩
  · rcases List.mem_append.1 hp with hp | hp <;> exact key hp hq (by omega)
  · simp only [List.mem_append] at hp
    rcases hp with (hp | hp) | hp <;> exact key hp hq (by omega)
theorem countS_up (l : List It) : (countS l).Pairwise fun p q => p.1.1 < q.1.1 := by
  unfold countS; split
  · refine parts_pair (f := countK l) (fun k r hr => ?_) (fun k => ?_) (fun _ _ h => h)
    · rw [(countK_mem hr).1]
    · unfold countK; split <;> simp
  · simp
theorem ltT_key {p q : It} (h : p.1.1 < q.1.1) : ltT p.1 q.1 = true := by simp [ltT]; exact .inl h
/-- Items in order are those of each key, one behind the other. -/
theorem split_keys {l : List It} (hs : Srt ltT l) (hk : ∀ r ∈ l, 0 ≤ r.1.1 ∧ r.1.1 ≤ 3) :
    (l.filter fun r => decide (r.1.1 = 0)) ++ (l.filter fun r => decide (r.1.1 = 1)) ++ (l.filter fun r => decide (r.1.1 = 2)) ++ (l.filter fun r => decide (r.1.1 = 3)) = l := by
  refine srt_ext ltT_ord ?_ hs fun r => ?_
  · exact parts_pair (f := fun k => l.filter fun r => decide (r.1.1 = k)) (fun k r hr => by simpa using (List.mem_filter.1 hr).2) (fun k => List.Pairwise.filter _ hs) (fun _ _ h => ltT_key h)
  · simp only [List.mem_append, List.mem_filter, decide_eq_true_eq]
    constructor
    · rintro (((h | h) | h) | h) <;> exact h.1
    · intro h
      have := hk r h
      have e : r.1.1 = 0 ∨ r.1.1 = 1 ∨ r.1.1 = 2 ∨ r.1.1 = 3 := by omega
      rcases e with e | e | e | e
      · exact .inl (.inl (.inl ⟨h, e⟩))
      · exact .inl (.inl (.inr ⟨h, e⟩))
      · exact .inl (.inr ⟨h, e⟩)
      · exact .inr ⟨h, e⟩
theorem once_mem {l : List It} {r : It} : r ∈ onceT l ↔ r.2 = 1 ∧ ∃ q ∈ l, 0 < q.2 ∧ q.1 = r.1 := by
  unfold onceT
  simp only [List.mem_map, List.mem_filter, decide_eq_true_eq]
  constructor
  · rintro ⟨q, ⟨h1, h2⟩, rfl⟩; exact ⟨rfl, q, h1, h2, rfl⟩
  · rintro ⟨h1, q, h2, h3, h4⟩; exact ⟨q, ⟨h2, h3⟩, Prod.ext h4 h1.symm⟩
theorem once_srt {l : List It} (h : Srt ltT l) : Srt ltT (onceT l) := by
  unfold Srt onceT
  rw [List.pairwise_map]
  exact List.Pairwise.filter _ h
theorem once_len (l : List It) : (onceT l).length ≤ l.length := by unfold onceT; rw [List.length_map]; exact List.length_filter_le _ _
theorem once_sok {l : List It} (h : sokB l = true) : sokB (onceT l) = true :=
  sok_of (Nat.le_trans (once_len l) (sok_len h)) (fun r hr => by
    obtain ⟨h1, q, h2, h3, h4⟩ := once_mem.1 hr
    have := it_parts (sok_at h h2)
    rw [h4] at this
    exact it_mk (by omega)) (once_srt (sok_srt h))
theorem onceS_no {l : List It} (h : sokB l = false) : onceS l = [] := by simp [onceS, h]
theorem onceS_yes {l : List It} (h : sokB l = true) : onceS l = onceT l := by simp [onceS, h]
theorem onceS_len (l : List It) : (onceS l).length ≤ 400 := by
  unfold onceS; split
  · rename_i h; exact Nat.le_trans (once_len l) (sok_len h)
  · simp
theorem once_once (l : List It) : onceT (onceT l) = onceT l := by
  unfold onceT
  rw [List.filter_map, List.map_map]
  have e : List.filter ((fun r : It => decide (0 < r.2)) ∘ fun r : It => (r.1, (1 : Int))) (l.filter fun r => decide (0 < r.2)) = l.filter fun r => decide (0 < r.2) := by
    rw [List.filter_eq_self]; intro a _; simp
  rw [e]; rfl
theorem once_twice {l : List It} (h : sokB l = true) : onceS (onceS l) = onceS l := by
  rw [onceS_yes h, onceS_yes (once_sok h), once_once]
theorem once_keys {l : List It} (h : sokB l = true) : ∀ r ∈ onceT l, 0 ≤ r.1.1 ∧ r.1.1 ≤ 3 := fun r hr => by
  have := it_parts (sok_at (once_sok h) hr); omega
/-! ### The least -/
theorem take1_mem {l : List It} (hs : Srt ltT l) (r : It) : r ∈ l.take 1 ↔ r ∈ l ∧ ∀ q ∈ l, ltT q.1 r.1 = false := by
  cases l with
  | nil => simp
  | cons x l =>
    obtain ⟨hx, _⟩ := List.pairwise_cons.1 hs
    simp only [List.take_succ_cons, List.take_zero, List.mem_singleton]
    constructor
    · rintro rfl
      refine ⟨by simp, fun q hq => ?_⟩
      rcases List.mem_cons.1 hq with rfl | hq
      · exact ltT_ord.irr _
      · cases e : ltT q.1 r.1
        · rfl
        · have := ltT_ord.trans _ _ _ e (hx q hq); rw [ltT_ord.irr] at this; cases this
    · rintro ⟨h1, h2⟩
      rcases List.mem_cons.1 h1 with rfl | h1
      · rfl
      · have := h2 x (by simp); rw [hx r h1] at this; cases this
theorem leastK_mem {l : List It} (hs : Srt ltT l) (k : Int) (r : It) : r ∈ leastK l k ↔ r ∈ onceT l ∧ r.1.1 = k ∧ ∀ q ∈ onceT l, q.1.1 = k → ltT q.1 r.1 = false := by
  unfold leastK
  rw [take1_mem (List.Pairwise.filter _ (once_srt hs))]
  simp only [List.mem_filter, decide_eq_true_eq]
  constructor
  · rintro ⟨⟨h1, h2⟩, h3⟩; exact ⟨h1, h2, fun q hq e => h3 q ⟨hq, e⟩⟩
  · rintro ⟨h1, h2, h3⟩; exact ⟨⟨h1, h2⟩, fun q hq => h3 q hq.1 hq.2⟩
theorem leastK_len (l : List It) (k : Int) : (leastK l k).length ≤ 1 := by unfold leastK; rw [List.length_take]; omega
theorem leastK_pair {R : It → It → Prop} (l : List It) (k : Int) : (leastK l k).Pairwise R := by
  have := leastK_len l k
  generalize leastK l k = m at this
  match m, this with
  | [], _ => simp
  | [x], _ => simp
theorem leastS_no {l : List It} (h : sokB l = false) : leastS l = [] := by simp [leastS, h]
theorem leastS_yes {l : List It} (h : sokB l = true) : leastS l = leastK l 0 ++ leastK l 1 ++ leastK l 2 ++ leastK l 3 := by simp [leastS, h]
theorem leastS_len (l : List It) : (leastS l).length ≤ 4 := by
  unfold leastS; split
  · have := leastK_len l 0; have := leastK_len l 1; have := leastK_len l 2; have := leastK_len l 3
    simp only [List.length_append]; omega
  · simp
theorem leastS_mem {l : List It} (h : sokB l = true) (r : It) : r ∈ leastS l ↔ r ∈ onceT l ∧ ∀ q ∈ onceT l, q.1.1 = r.1.1 → ltT q.1 r.1 = false := by
  rw [leastS_yes h]
  have hs := sok_srt h
  simp only [List.mem_append, leastK_mem hs]
  constructor
  · rintro (((⟨h1, h2, h3⟩ | ⟨h1, h2, h3⟩) | ⟨h1, h2, h3⟩) | ⟨h1, h2, h3⟩) <;> exact ⟨h1, fun q hq e => h3 q hq (by omega)⟩
  · rintro ⟨h1, h2⟩
    have := once_keys h r h1
    have e : r.1.1 = 0 ∨ r.1.1 = 1 ∨ r.1.1 = 2 ∨ r.1.1 = 3 := by omega
    rcases e with e | e | e | e
    · exact .inl (.inl (.inl ⟨h1, e, fun q hq e' => h2 q hq (by omega)⟩))
    · exact .inl (.inl (.inr ⟨h1, e, fun q hq e' => h2 q hq (by omega)⟩))
    · exact .inl (.inr ⟨h1, e, fun q hq e' => h2 q hq (by omega)⟩)
    · exact .inr ⟨h1, e, fun q hq e' => h2 q hq (by omega)⟩
theorem leastS_up (l : List It) : (leastS l).Pairwise fun p q => p.1.1 < q.1.1 := by
  unfold leastS; split
  · refine parts_pair (f := leastK l) (fun k r hr => ?_) (fun k => leastK_pair l k) (fun _ _ h => h)
    unfold leastK at hr
    simpa using (List.mem_filter.1 (List.mem_of_mem_take hr)).2
  · simp
theorem up_srt {l : List It} (h : l.Pairwise fun p q => p.1.1 < q.1.1) : Srt ltT l := List.Pairwise.imp (fun hlt => ltT_key hlt) h
theorem leastS_sok {l : List It} (h : sokB l = true) : sokB (leastS l) = true :=
  sok_of (by have := leastS_len l; omega) (fun r hr => sok_at (once_sok h) ((leastS_mem h r).1 hr).1) (up_srt (leastS_up l))
/-- What is the least there is. -/
theorem least_of {l m : List It} (h : sokB l = true) (hm : Srt ltT m) (he : ∀ r, r ∈ m ↔ r ∈ onceT l ∧ ∀ q ∈ onceT l, q.1.1 = r.1.1 → ltT q.1 r.1 = false) : m = leastS l :=
  srt_ext ltT_ord hm (up_srt (leastS_up l)) fun r => by rw [he, leastS_mem h]
theorem least_once {l : List It} (h : sokB l = true) : leastS (onceS l) = leastS l := by
  rw [onceS_yes h]
  refine (least_of h (up_srt (leastS_up _)) fun r => ?_)
  rw [leastS_mem (once_sok h), once_once]
theorem least_sub {l : List It} (h : sokB l = true) : onceT (leastS l) = leastS l := by
  refine srt_ext ltT_ord (once_srt (up_srt (leastS_up l))) (up_srt (leastS_up l)) fun r => ?_
  rw [once_mem]
  constructor
  · rintro ⟨h1, q, h2, h3, h4⟩
    have := (once_mem.1 ((leastS_mem h q).1 h2).1).1
    obtain rfl : q = r := Prod.ext h4 (by omega)
    exact h2
  · intro hr
    have := (once_mem.1 ((leastS_mem h r).1 hr).1).1
    exact ⟨this, r, hr, by omega, rfl⟩
theorem least_twice {l : List It} (h : sokB l = true) : leastS (leastS l) = leastS l := by
  refine (least_of (leastS_sok h) (up_srt (leastS_up l)) fun r => ?_).symm
  rw [least_sub h]
  constructor
  · exact fun hr => ⟨hr, fun q hq e => ((leastS_mem h r).1 hr).2 q ((leastS_mem h q).1 hq).1 e⟩
  · exact fun hr => hr.1
theorem least_there {l : List It} (h : sokB l = true) {r : It} (hr : r ∈ onceT l) : ∃ x ∈ leastS l, x.1.1 = r.1.1 ∧ x.1.2 ≤ r.1.2 := by
  have key : ∀ n : Nat, ∀ r ∈ onceT l, r.1.2 ≤ n → ∃ x ∈ leastS l, x.1.1 = r.1.1 ∧ x.1.2 ≤ r.1.2 := by
    intro n
    induction n with
    | zero =>
      intro r hr hn
      refine ⟨r, (leastS_mem h r).2 ⟨hr, fun q hq e => ?_⟩, rfl, Int.le_refl _⟩
      have := it_parts (sok_at (once_sok h) hq)
      rw [Bool.eq_false_iff]; intro c; simp [ltT] at c; omega
    | succ n ih =>
      intro r hr hn
      by_cases c : ∀ q ∈ onceT l, q.1.1 = r.1.1 → ltT q.1 r.1 = false
      · exact ⟨r, (leastS_mem h r).2 ⟨hr, c⟩, rfl, Int.le_refl _⟩
      · obtain ⟨q, hq⟩ := Classical.not_forall.1 c
        obtain ⟨hq, c⟩ := Classical.not_forall.1 hq
        obtain ⟨e, c⟩ := Classical.not_forall.1 c
        have c' : ltT q.1 r.1 = true := by simpa using c
        simp [ltT] at c'
        obtain ⟨x, hx, e1, e2⟩ := ih q hq (by omega)
        exact ⟨x, hx, by omega, by omega⟩
  have := it_parts (sok_at (once_sok h) hr)
  exact key 99 r hr (by omega)
/-- Doubled. -/
theorem dbl_both {l : List It} (h : sokB l = true) : bothS l l = l.map fun r => (r.1, 2 * r.2) := by
  rw [bothS_yes h h]
  refine (sumL_uniq ltT_ord ?_ ?_ fun s => ?_).symm
  · unfold Srt; rw [List.pairwise_map]; exact sok_srt h
  · intro r hr
    obtain ⟨q, hq, rfl⟩ := List.mem_map.1 hr
    have := sok_nz h q hq
    simp only; omega
  · rw [tot_append]
    clear h
    induction l with
    | nil => rfl
    | cons r l ih => simp only [List.map_cons, tot, ih]; split <;> omega
theorem once_dbl (l : List It) : onceT (l.map fun r => (r.1, 2 * r.2)) = onceT l := by
  unfold onceT
  rw [List.filter_map, List.map_map]
  have e : (fun r : It => decide (0 < r.2)) ∘ (fun r : It => (r.1, 2 * r.2)) = fun r : It => decide (0 < r.2) := by
    funext r; simp; omega
  rw [e]; rfl
theorem once_more {l : List It} (h : sokB l = true) (hl : l.length ≤ 9) (ha : absum l ≤ 300) : onceS (bothS l l) = onceS l := by
  rw [onceS_yes (bothS_sok h h (by omega) (by omega)), dbl_both h, once_dbl, onceS_yes h]
theorem least_more {l : List It} (h : sokB l = true) (hl : l.length ≤ 9) (ha : absum l ≤ 300) : leastS (bothS l l) = leastS l := by
  have hb := bothS_sok h h (by omega) (by omega)
  refine least_of h (up_srt (leastS_up _)) fun r => ?_
  rw [leastS_mem hb, dbl_both h, once_dbl]
end Go.Proofs.YtjkojbafifbdgaaGreat

/-! The clearing out of items of one Key, one behind the other: plain facts. -/
namespace Go.Proofs.YtjkojbafifbdgaaGreat
open Go.RowKit

def gI (l : List It) (j : Nat) : It := (l[j]?).getD ((0, 0), 0)
/-- The item at j stays: it is the first, or of another Key than that before it. -/
def kpI (l : List It) (j : Nat) : Bool := decide (j = 0 ∨ ¬ (gI l j).1.1 = (gI l (j - 1)).1.1)
def cpI (l : List It) (m : Nat) : List It := ((List.range m).filter (kpI l)).map (gI l)
theorem gI_at {l : List It} {j : Nat} (h : j < l.length) : l[j]? = some (gI l j) := by
  unfold gI; rw [List.getElem?_eq_getElem h]; rfl
theorem cpI_succ (l : List It) (m : Nat) : cpI l (m + 1) = cpI l m ++ (if kpI l m then [gI l m] else []) := by
  unfold cpI
  rw [List.range_succ, List.filter_append, List.map_append]
  congr 1
  by_cases h : kpI l m <;> simp [h]
theorem rangeI (l : List It) (m : Nat) (hm : m ≤ l.length) : (List.range m).map (gI l) = l.take m := by
  apply List.ext_getElem?
  intro i
  by_cases hi : i < m
  · rw [List.getElem?_take, if_pos hi, gI_at (show i < l.length by omega)]
    simp [hi]
  · rw [List.getElem?_take, if_neg hi, List.getElem?_eq_none (by simp; omega)]
theorem cpI_all {l : List It} {m : Nat} (hm : m ≤ l.length) (h : ∀ j, j < m → kpI l j = true) : cpI l m = l.take m := by
  unfold cpI
  rw [List.filter_eq_self.2 (fun j hj => h j (List.mem_range.1 hj)), rangeI l m hm]
theorem cpI_sub (l : List It) : (cpI l l.length).Sublist l := by
  have h : (cpI l l.length).Sublist ((List.range l.length).map (gI l)) := List.Sublist.map _ List.filter_sublist
  rw [rangeI l _ (Nat.le_refl _), List.take_length] at h
  exact h
theorem kpI_no {l : List It} {m : Nat} (hm : 0 < m) (h1 : (gI l m).1.1 = (gI l (m - 1)).1.1) : kpI l m = false := by
  have : m ≠ 0 := by omega
  simp [kpI, h1, this]
theorem kpI_one {l : List It} {j : Nat} (h : j < 1) : kpI l j = true := by
  have : j = 0 := by omega
  simp [kpI, this]
theorem kpI_yes {l : List It} {m : Nat} (h : ¬ (gI l m).1.1 = (gI l (m - 1)).1.1) : kpI l m = true := by
  unfold kpI; exact decide_eq_true (.inr h)
theorem cpI_mem (l : List It) (r : It) : r ∈ cpI l l.length ↔ ∃ j, j < l.length ∧ kpI l j = true ∧ l[j]? = some r := by
  unfold cpI
  rw [List.mem_map]
  constructor
  · rintro ⟨j, hj, rfl⟩
    obtain ⟨h1, h2⟩ := List.mem_filter.1 hj
    have := List.mem_range.1 h1
    exact ⟨j, this, h2, gI_at this⟩
  · rintro ⟨j, h1, h2, h3⟩
    refine ⟨j, List.mem_filter.2 ⟨List.mem_range.2 h1, h2⟩, ?_⟩
    rw [gI_at h1] at h3; exact Option.some.inj h3
theorem srt_get {l : List It} (h : Srt ltT l) {i j : Nat} {a b : It} (hij : i < j) (ha : l[i]? = some a) (hb : l[j]? = some b) : ltT a.1 b.1 = true := by
  obtain ⟨hi, e1⟩ := List.getElem?_eq_some_iff.1 ha
  obtain ⟨hj, e2⟩ := List.getElem?_eq_some_iff.1 hb
  have := (List.pairwise_iff_getElem.1 h) i j hi hj hij
  rw [e1, e2] at this; exact this
/-- Of items in order, those that stay are the least of each Key. -/
theorem cp_least {l : List It} (h : sokB l = true) : cpI (onceT l) (onceT l).length = leastS l := by
  have hs := once_srt (sok_srt h)
  refine least_of h (hs.sublist (cpI_sub _)) fun r => ?_
  rw [cpI_mem]
  generalize onceT l = o at *
  constructor
  · rintro ⟨j, hj, hk, hr⟩
    refine ⟨List.mem_of_getElem? hr, fun q hq e => ?_⟩
    obtain ⟨i, hi, e1⟩ := List.getElem_of_mem hq
    have hqi : o[i]? = some q := by rw [List.getElem?_eq_getElem hi, e1]
    by_cases hij : i < j
    · exfalso
      have hj0 : j ≠ 0 := by omega
      simp only [kpI, decide_eq_true_eq] at hk
      have hne := hk.resolve_left hj0
      have hp := gI_at (l := o) (j := j - 1) (by omega)
      have hgr : gI o j = r := by rw [gI_at hj] at hr; exact Option.some.inj hr
      have h1 := srt_get hs (show j - 1 < j by omega) hp hr
      rw [hgr] at hne
      by_cases h0 : i = j - 1
      · subst h0; rw [hqi] at hp; rw [← Option.some.inj hp] at hne; exact hne e.symm
      · have h2 := srt_get hs (show i < j - 1 by omega) hqi hp
        simp [ltT] at h1 h2
        omega
    · by_cases h0 : i = j
      · subst h0; rw [hr] at hqi; cases hqi; exact ltT_ord.irr _
      · have h1 := srt_get hs (show j < i by omega) hr hqi
        cases h2 : ltT q.1 r.1
        · rfl
        · have := ltT_ord.trans _ _ _ h1 h2; rw [ltT_ord.irr] at this; cases this
  · rintro ⟨hr, hall⟩
    obtain ⟨j, hj, e1⟩ := List.getElem_of_mem hr
    have hrj : o[j]? = some r := by rw [List.getElem?_eq_getElem hj, e1]
    refine ⟨j, hj, ?_, hrj⟩
    by_cases h0 : j = 0
    · exact kpI_one (by omega)
    · refine kpI_yes fun e => ?_
      have hp := gI_at (l := o) (j := j - 1) (by omega)
      have hgr : gI o j = r := by rw [gI_at hj] at hrj; exact Option.some.inj hrj
      rw [hgr] at e
      have h1 := srt_get hs (show j - 1 < j by omega) hp hrj
      have h2 := hall _ (List.mem_of_getElem? hp) e.symm
      rw [h2] at h1; cases h1
/-- How far it has come: i are kept of the first j. -/
structure CpI (l : List It) (i j : Nat) (c : Array Value) : Prop where
  lt : i < j
  le : j ≤ l.length
  len : (cpI l j).length = i
  low : FillK itC 3 c (cpI l j) i
  high : ∀ m, i ≤ m → m < l.length → ∀ q, q < 3 → c[m * 3 + q]? = (itC (gI l m))[q]?
theorem CpI.start {l : List It} {k : Nat} {c : Array Value} (hk : k < l.length) (hno : kpI l k = false) (hyes : ∀ i, i < k → kpI l i = true) (hf : FillK itC 3 c l l.length) : CpI l k (k + 1) c := by
  have e : cpI l (k + 1) = l.take k := by
    rw [cpI_succ, hno, cpI_all (by omega) hyes]; simp
  refine ⟨by omega, hk, by rw [e, List.length_take]; omega, fun i x hi hx => ?_, fun m _ hm q hq => hf m _ hm (gI_at hm) q hq⟩
  rw [e, List.getElem?_take, if_pos hi] at hx
  exact hf i x (by omega) hx
theorem CpI.skip {l : List It} {i j : Nat} {c : Array Value} (h : CpI l i j c) (hj : j < l.length) (hy : kpI l j = false) : CpI l i (j + 1) c := by
  have e : cpI l (j + 1) = cpI l j := by rw [cpI_succ, hy]; simp
  exact ⟨by have := h.lt; omega, hj, by rw [e]; exact h.len, by rw [e]; exact h.low, h.high⟩
theorem CpI.keep {l : List It} {i j : Nat} {c : Array Value} {K V D : Int} (h : CpI l i j c) (hj : j < l.length) (hs : l.length * 3 ≤ c.size) (hy : kpI l j = true) (hg : gI l j = ((K, V), D)) :
    CpI l (i + 1) (j + 1) (((c.setIfInBounds (i * 3) (.int .i64 K)).setIfInBounds (i * 3 + 1) (.int .i64 V)).setIfInBounds (i * 3 + 2) (.int .i64 D)) := by
  have hlt := h.lt
  have hlen := h.len
  have e : cpI l (j + 1) = cpI l j ++ [((K, V), D)] := by rw [cpI_succ, hy, hg]; rfl
  refine ⟨by omega, hj, by rw [e, List.length_append]; simp [hlen], fun a x ha hx q hq => ?_, fun m a b q hq => ?_⟩
  · rw [e] at hx
    by_cases hai : a < i
    · rw [List.getElem?_append_left (by omega)] at hx
      rw [Array.getElem?_setIfInBounds, if_neg (by omega), Array.getElem?_setIfInBounds, if_neg (by omega), Array.getElem?_setIfInBounds, if_neg (by omega)]
      exact h.low a x hai hx q hq
    · obtain rfl : a = i := by omega
      rw [List.getElem?_append_right (by omega)] at hx
      simp [hlen] at hx
      subst hx
      obtain rfl | rfl | rfl : q = 0 ∨ q = 1 ∨ q = 2 := by omega
      · rw [Array.getElem?_setIfInBounds, if_neg (by omega), Array.getElem?_setIfInBounds, if_neg (by omega), Array.getElem?_setIfInBounds, if_pos (by omega), if_pos (by omega)]; rfl
      · rw [Array.getElem?_setIfInBounds, if_neg (by omega), Array.getElem?_setIfInBounds, if_pos (by omega), if_pos (by simp; omega)]; rfl
      · rw [Array.getElem?_setIfInBounds, if_pos (by omega), if_pos (by simp; omega)]; rfl
  · rw [Array.getElem?_setIfInBounds, if_neg (by omega), Array.getElem?_setIfInBounds, if_neg (by omega), Array.getElem?_setIfInBounds, if_neg (by omega)]
    exact h.high m (by omega) b q hq
end Go.Proofs.YtjkojbafifbdgaaGreat

/-! What SetOk answers, of the program and of its model: contracts. -/
namespace Go.Proofs.YtjkojbafifbdgaaGreat
open Go.RowKit

theorem l6In_b {n lo hi : Int} {r : Bool} (h : inB n lo hi = r) (w : World) : Calls Tryz.prog 100 #[.int .i64 n, .int .i64 lo, .int .i64 hi] w fun e w' => e = .returned (.bool r) ∧ Below w.heap.size w w' :=
  (l6In_eq h w).mono fun _ _ ⟨h1, h2⟩ => ⟨h1, by rw [h2]; exact Below.refl _ _⟩
def itB (k v d : Int) : Bool := inB k 0 3 && inB v 0 99 && decide (d ≠ 0)
theorem itOk_eq (k v d : Int) : itOkB ((k, v), d) = (itB k v d && inB d (-1099511627776) 1099511627776) := rfl
theorem compareI_eq {k v d k' v' d' r : Int} (h : cmpT (k, v) (k', v') = r) (w : World) : Calls Tryz.prog 136 #[iv k v d, iv k' v' d'] w fun e w' => e = .returned (.int .i64 r) ∧ Below w.heap.size w w' := by
  rw [← h, ← cmpZ_or]; exact (compareI_any k v d k' v' d' w).mono fun _ _ ⟨h1, h2⟩ => ⟨h1, h2.1⟩
theorem upto_sst {l : List It} {k : Nat} (h : ∀ j, j < k → sstep l j = true) (hk : sstep l k = true) {j : Nat} (hj : j < k + 1) : sstep l j = true := by
  by_cases e : j = k
  · subst e; exact hk
  · exact h j (by omega)
theorem sstep_bad {l : List It} {k : Nat} {r : It} (hr : l[k]? = some r) (h : itOkB r = false) : sstep l k = false := by
  unfold sstep; rw [hr]; simp [h]
end Go.Proofs.YtjkojbafifbdgaaGreat

/-! What SetLess answers, of the program and of its model, and SetOnce of the program: contracts. -/
namespace Go.Proofs.YtjkojbafifbdgaaGreat
open Go.RowKit

theorem negI_snoc {l : List It} {k : Nat} {s : Int × Int} {d : Int} (h : l[k]? = some (s, d)) : negI (l.take (k + 1)) = negI (l.take k) ++ [(s, -d)] := by
  unfold negI; rw [take_snoc h, List.map_append]; rfl
theorem once_yes {l : List It} {k : Nat} {s : Int × Int} {d : Int} (h : l[k]? = some (s, d)) (hd : 0 < d) : onceT (l.take (k + 1)) = onceT (l.take k) ++ [(s, 1)] := by
  unfold onceT; rw [take_snoc h, List.filter_append, List.map_append]; simp [hd]
theorem once_no {l : List It} {k : Nat} {s : Int × Int} {d : Int} (h : l[k]? = some (s, d)) (hd : ¬ 0 < d) : onceT (l.take (k + 1)) = onceT (l.take k) := by
  unfold onceT; rw [take_snoc h, List.filter_append, List.map_append]; simp [hd]
theorem sok_d {l : List It} (h : sokB l = true) {k : Nat} {s : Int × Int} {d : Int} (hr : l[k]? = some (s, d)) : -1099511627776 ≤ d ∧ d ≤ 1099511627776 := by
  have := it_parts (sok_at h (List.mem_of_getElem? hr)); exact ⟨this.2.2.2.2.2.1, this.2.2.2.2.2.2⟩
theorem sok_pos {l : List It} (h : sokB l = false) : 0 < l.length := by
  cases l with
  | nil => rw [sok_nil] at h; cases h
  | cons _ _ => simp
end Go.Proofs.YtjkojbafifbdgaaGreat

/-! Items of a slice appended to a slice of a call's own; what the model makes of all items of a key, and of all keys: contracts. -/
namespace Go.Proofs.YtjkojbafifbdgaaGreat
open Go.RowKit Go.Shelf

theorem is_src {w : World} {v : Value} {l : List It} (h : Is w v l) : ∃ (ad : Option Addr) (cap : Nat), v = .slice ad l.length cap ∧ (l ≠ [] → ∃ g off, ad = some ⟨g, off, none⟩ ∧ ∀ j u, (l.flatMap itC)[j]? = some u → w.cell? ((⟨g, off, none⟩ : Addr).add j) = some u) := by
  obtain ⟨a, cap, rfl, hc, hm, hn, h4⟩ := h
  refine ⟨a, cap, rfl, fun hne => ?_⟩
  have h0 : 0 < l.length := List.length_pos_iff.2 hne
  obtain ⟨g, off, rfl, hg, _⟩ := h4 0 l[0] (List.getElem?_eq_getElem h0)
  refine ⟨g, off, rfl, fun j u hj => ?_⟩
  have hlt : j < l.length * 3 := by
    have := (List.getElem?_eq_some_iff.1 hj).1
    rwa [flat_len itC_len] at this
  have hq : j / 3 < l.length := by omega
  obtain ⟨g', off', e, _, c⟩ := h4 (j / 3) l[j / 3] (List.getElem?_eq_getElem hq)
  simp only [Option.some.injEq, Addr.mk.injEq] at e
  obtain ⟨rfl, rfl, _⟩ := e
  have hc2 := c (j % 3) (Nat.mod_lt _ (by omega))
  have e2 := flat_get itC_len l (List.getElem?_eq_getElem hq) (j := j % 3) (Nat.mod_lt _ (by omega))
  have e3 : j / 3 * 3 + j % 3 = j := by omega
  rw [e3] at e2
  rw [Nat.add_assoc, e3] at hc2
  rw [Go.WideShapes.add_plain]
  rw [hc2, ← e2, hj]
theorem onesIs (l : List It) : ∀ u ∈ l.flatMap itC, u.oneCell' = true := by
  intro u hu
  obtain ⟨r, _, hr⟩ := List.mem_flatMap.1 hu
  exact onesI r u hr
theorem src_zeroI {w : World} (ad : Option Addr) (c : Nat) : _root_.Go.Src Tryz.prog 3 67 (.slice ad 0 c) 0 [] w := by
  cases ad with
  | none => exact _root_.Go.Src.ofNil w Tryz.underlying67 c
  | some a => exact _root_.Go.Src.ofSlice w Tryz.underlying67 a 0 c [] rfl (by simp) (by simp)
theorem app_zeroI {w : World} {B : Nat} {v : Value} {l : List It} (h : OwnI w B v l) (ad : Option Addr) (c : Nat) (ty : TypeId) : (Builtin.append_ #[67, 67] ty #[v, .slice ad 0 c]).run Tryz.prog w = .ok v w := by
  obtain ⟨i0, hi, hz0, hz1, hz2⟩ := info_parts infoI
  have hs : _root_.Go.Src Tryz.prog i0.size 67 (.slice ad 0 c) 0 [] w := by rw [hz1]; exact src_zeroI ad c
  rcases ownK_open h itC_len with ⟨rfl, rfl⟩ | ⟨g, cap, cs, rfl, hg, hb, hss, hcc, hm, _⟩
  · simp [Builtin.append_, run_underlying Tryz.underlying67, sizeOf, typeInfo, hi, hs.len, hs.cells]
  · have := run_append_room_src (P := Tryz.prog) w 67 67 ty 112 i0 Tryz.underlying67 hi g 0 l.length cap _ 0 [] hs (by omega) (by simp) (by simp)
    exact this
section
variable {ops : Array Oper} {rest : List Oper} {o : Oper} {a : Act} {Q : Exit → Act → World → Prop}
/-- 'append(v, v2...)'. -/
theorem appIs (w : World) (hgd : o.guard = none) (s x : Operand) (ho : o.op = .call { callee := .builtin .append, args := #[s, x], argTypes := #[67, 67] })
    (base : Nat) (v : Value) (l : List It) (hs : a.eval s = v) (hown : OwnI w base v l) (v2 : Value) (m : List It) (hx : a.eval x = v2) (hR : Is w v2 m) (hl : l.length + m.length ≤ 2000000) (hbase : base ≤ w.heap.size)
    (h : ∀ v' w', OwnI w' base v' (l ++ m) → w.grownBy w' v.ownBlock → wpList Tryz.prog ops Q rest (a.put o.dst v') w') :
    wpList Tryz.prog ops Q (o :: rest) a w := by
  obtain ⟨i0, hi, hz0, hz1, hz2⟩ := info_parts infoI
  obtain ⟨ad, cap, rfl, hsrc⟩ := is_src hR
  by_cases hm0 : m = []
  · subst hm0
    refine wpList_plain hgd fun K' hK' => ?_
    have hrun := app_zeroI hown ad cap o.type
    unfold Oper.wp
    simp [execOp, ho, resolve, invoke, builtin, hs, hx, hrun, Result.andThen]
    exact hK' _ _ (h v w (by simpa using hown) ⟨rfl, rfl, rfl, Nat.le_refl _, fun _ _ _ => rfl⟩)
  · obtain ⟨g, off, rfl, hnews⟩ := hsrc hm0
    have hpos : 0 < m.length := List.length_pos_iff.2 hm0
    refine wpList_append_lies w hgd s x 67 ho base 112 i0 _ 3 24 Tryz.underlying67 hi hz0 hz1 hz2 rfl (by decide) v l.length (l.flatMap itC) hs hown ⟨g, off, none⟩ m.length cap (m.flatMap itC) hx (flat_len itC_len m) hnews (onesIs m) hpos (by unfold maxLen; omega) (by omega) hbase w.heap.size rfl ?_
    intro g' cap' w' h1 h2 _ _
    refine h _ w' ?_ h2
    show w'.ownsRow _ _ _ _ _ _
    rw [List.flatMap_append, List.length_append]; exact h1
end
theorem appIs_len {s t : List It} : (s ++ t).length = s.length + t.length := List.length_append
theorem sok_take {l : List It} (h : sokB l = true) (k : Nat) : absum (l.take k) ≤ 1099511627776 * 400 := Int.le_trans (absum_take l k) (sok_abs h)
theorem keyN_yes {l : List It} {k : Nat} {K V D key : Int} (h : l[k]? = some ((K, V), D)) (e : K = key) : keyN (l.take (k + 1)) key = keyN (l.take k) key + D := by
  rw [take_snoc h, keyN_snoc]; simp [e]
theorem keyN_no {l : List It} {k : Nat} {K V D key : Int} (h : l[k]? = some ((K, V), D)) (e : K ≠ key) : keyN (l.take (k + 1)) key = keyN (l.take k) key := by
  rw [take_snoc h, keyN_snoc]; simp [e]
theorem mod100 (n : Int) : ((n.tmod 100) + 100) % 100 = n % 100 := by
  have h1 := Int.tmod_add_mul_tdiv n 100
  omega
theorem once_other {l : List It} {k : Nat} {K V D key : Int} (hr : l[k]? = some ((K, V), D)) (hK : K ≠ key) : ((onceT (l.take (k + 1))).filter fun r => decide (r.1.1 = key)) = ((onceT (l.take k)).filter fun r => decide (r.1.1 = key)) := by
  by_cases hD : 0 < D
  · rw [once_yes hr hD, List.filter_append]; simp [hK]
  · rw [once_no hr hD]
/-- What is made of the keys below k, one behind the other. -/
def accF (f : Int → List It) : Nat → List It
  | 0 => []
  | k + 1 => accF f k ++ f k
theorem accF_len {f : Int → List It} {c : Nat} (h : ∀ k, (f k).length ≤ c) (k : Nat) : (accF f k).length ≤ k * c := by
  induction k with
  | zero => simp [accF]
  | succ k ih => have := h k; simp only [accF, List.length_append, Nat.add_mul]; omega
theorem accF_four (f : Int → List It) : accF f 4 = f 0 ++ f 1 ++ f 2 ++ f 3 := by simp [accF]
end Go.Proofs.YtjkojbafifbdgaaGreat

/-! Grow and Concat of items, and SetBoth of the program and of its model: contracts. -/
namespace Go.Proofs.YtjkojbafifbdgaaGreat
open Go.RowKit Go.Shelf
open Go.ChangeMaps (setBlock)

theorem Bx.putMap {g : Nat} {a w : World} (h : Bx g a w) (o : Obj) : Bx g a (setBlock w g o) :=
  h.trans ⟨rfl, rfl, rfl, by rw [size_setBlock]; exact Nat.le_refl _, fun _ _ hg => setBlock_at hg⟩
theorem it_th {s : Int × Int} (h : itK s) : thOk s := by
  obtain ⟨h1, h2, h3, h4⟩ := h
  exact ⟨by unfold fit63; omega, by unfold fit63; omega⟩
theorem itemsOf_k {M L : List It} (b : Nat) (w : World) (hmap : MapIs thV thOk w b M) (hMl : M.length ≤ 1000000) (ht : ∀ s, tot M s = tot L s) :
    Calls Tryz.prog 121 #[.map (some b)] w fun e w' => ∃ o : Value, e = .returned o ∧ OwnI w' w.heap.size o (sumL ltT L) ∧ Below w.heap.size w w' := by
  rw [← sumL_congr ltT_ord ht]; exact itemsOf_any b M w hmap hMl
end Go.Proofs.YtjkojbafifbdgaaGreat

/-! SetCount of the program: the contract. -/
namespace Go.Proofs.YtjkojbafifbdgaaGreat
open Go.RowKit

theorem Bk.quad {w : World} {k : Nat} {x0 x1 x2 x3 : Value} {t : TypeId} (h : Bk w k #[x0, x1, x2, x3] t) :
    w.cell? ⟨k, 0, none⟩ = some x0 ∧ w.cell? ⟨k, 1, none⟩ = some x1 ∧ w.cell? ⟨k, 2, none⟩ = some x2 ∧ w.cell? ⟨k, 3, none⟩ = some x3 := by
  unfold Bk at h; simp [World.cell?, h]
end Go.Proofs.YtjkojbafifbdgaaGreat
