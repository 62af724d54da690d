/- Changes of each and of pairs, as functions of lists: plain facts. -/
import Derived.Test.YtlddhfimiignaaaGt1
import Derived.Test.YtlddhfimiignaaaGa8
import Derived.Test.YtlddhfimiignaaaGk1
namespace Go.Proofs.Ytlddhfimiignaaa

/-- What is made of each row. -/
def eachR (how : Int) (l : List Rw) : List Rw := (l.filter fun r => wayP how r.1.1).map fun r => ((wayM how r.1.1, r.1.2), r.2)
def feachL (l : List Rw) (how : Int) : List Rw := if rokB l && inB how 1 7 then sumF (eachR how l) else []
/-- The row of two. -/
def jnS (s t : Sp) : Sp := ((s.1.1, pv s.1.2 t.1.2), (jnA s.2.1 s.2.2 t.2.1 t.2.2, jnB s.2.1 s.2.2 t.2.1 t.2.2))
def rowJ (x : Rw) (t : List Rw) : List Rw := (t.filter fun y => decide (x.1.1.1 = y.1.1.1)).map fun y => (jnS x.1 y.1, x.2 * y.2)
def pairR (s t : List Rw) : List Rw := s.flatMap fun x => rowJ x t
def fjoinL (a b : List Rw) : List Rw := if rokB a && rokB b then sumF (pairR a b) else []

theorem feach_no1 {l : List Rw} {how : Int} (h : rokB l = false) : feachL l how = [] := by simp [feachL, h]
theorem feach_no2 {l : List Rw} {how : Int} (h : inB how 1 7 = false) : feachL l how = [] := by simp [feachL, h]
theorem feach_yes {l : List Rw} {how : Int} (h : rokB l = true) (h' : inB how 1 7 = true) : feachL l how = sumF (eachR how l) := by simp [feachL, h, h']
theorem fjoin_no1 {a b : List Rw} (h : rokB a = false) : fjoinL a b = [] := by simp [fjoinL, h]
theorem fjoin_no2 {a b : List Rw} (h : rokB b = false) : fjoinL a b = [] := by simp [fjoinL, h]
theorem fjoin_yes {a b : List Rw} (h : rokB a = true) (h' : rokB b = true) : fjoinL a b = sumF (pairR a b) := by simp [fjoinL, h, h']
theorem feach_bok (l : List Rw) (how : Int) : bokB (feachL l how) = true := by
  unfold feachL; split
  · exact sumF_bok _
  · exact bok_nil
theorem fjoin_bok (a b : List Rw) : bokB (fjoinL a b) = true := by
  unfold fjoinL; split
  · exact sumF_bok _
  · exact bok_nil
theorem feach_rok (l : List Rw) (how : Int) : rokB (feachL l how) = true := bok_rok (feach_bok l how)
theorem fjoin_rok (a b : List Rw) : rokB (fjoinL a b) = true := bok_rok (fjoin_bok a b)
theorem feach_len (l : List Rw) (how : Int) : (feachL l how).length ≤ 400 := rok_len (feach_rok l how)
theorem fjoin_len (a b : List Rw) : (fjoinL a b).length ≤ 400 := rok_len (fjoin_rok a b)

theorem eachR_len (how : Int) (l : List Rw) : (eachR how l).length ≤ l.length := by
  unfold eachR; rw [List.length_map]; exact List.length_filter_le _ _
theorem eachR_abs (how : Int) (l : List Rw) : absum (eachR how l) ≤ absum l := by
  induction l with
  | nil => simp [eachR]
  | cons r l ih =>
    unfold eachR at ih ⊢
    rw [List.filter_cons]
    by_cases h : wayP how r.1.1 = true
    · simp only [h, if_true, List.map_cons, absum]; omega
    · rw [if_neg h]; simp only [absum]; omega
theorem eachR_tot (how : Int) (l : List Rw) (s : Sp) : tot (eachR how l) s = wsum (fun x : Sp => if wayP how x.1 = true ∧ ((wayM how x.1, x.2) : Sp) = s then 1 else 0) l := tot_some (fun x : Sp => wayP how x.1) (fun x : Sp => (wayM how x.1, x.2)) l s
theorem rw_k {r : Rw} (h : rwOkB r = true) : itK r.1.1 := by
  obtain ⟨h1, h2, _⟩ := rw_parts h
  simp only [inB, decide_eq_true_eq] at h1 h2
  exact ⟨h1.1, h1.2, h2.1, h2.2⟩
theorem key_ok {s : Sp} (h : itK s.1) (h' : okB s.2.1 s.2.2 = true) : inB s.1.1 0 3 = true ∧ inB s.1.2 0 99 = true ∧ okB s.2.1 s.2.2 = true := by
  obtain ⟨h1, h2, h3, h4⟩ := h
  exact ⟨by simp [inB]; omega, by simp [inB]; omega, h'⟩
theorem eachR_key {how : Int} {l : List Rw} (h : rokB l = true) : ∀ r ∈ eachR how l, itK r.1.1 ∧ okB r.1.2.1 r.1.2.2 = true := fun r hr => by
  unfold eachR at hr
  obtain ⟨q, hq, rfl⟩ := List.mem_map.1 hr
  have hk := rok_at h (List.mem_filter.1 hq).1
  exact ⟨way_k (rw_k hk), rw_time (r := q) hk⟩
theorem eachR_rok {how : Int} {l : List Rw} (h : rokB l = true) : rokB (eachR how l) = true := by
  refine rok_mk (Nat.le_trans (eachR_len how l) (rok_len h)) fun r hr => ?_
  obtain ⟨h1, h2⟩ := eachR_key h r hr
  obtain ⟨k1, k2, k3⟩ := key_ok h1 h2
  unfold eachR at hr
  obtain ⟨q, hq, rfl⟩ := List.mem_map.1 hr
  have hk := rw_diff (rok_at h (List.mem_filter.1 hq).1)
  have k4 : inB q.2 (-99999) 99999 = true := by simp [inB]; omega
  simp only [rwOkB, k1, k2, k3, k4, Bool.and_self]
theorem feach_sum {how : Int} {l : List Rw} (h : rokB l = true) (h' : inB how 1 7 = true) (ha : absum l ≤ 99999) : feachL l how = sumL ltS (eachR how l) := by
  rw [feach_yes h h']
  exact sumF_ok (sum_rok (Nat.le_trans (eachR_len how l) (rok_len h)) (fun r hr => key_ok (eachR_key h r hr).1 (eachR_key h r hr).2) (Int.le_trans (eachR_abs how l) ha))
theorem at_each (how : Int) (l : List Rw) (x y : Int) : atL (eachR how l) x y = eachT how (atL l x y) := by
  unfold atL eachR eachT
  induction l with
  | nil => rfl
  | cons r l ih =>
    cases h1 : wayP how r.1.1 <;> cases h2 : leB r.1.2.1 r.1.2.2 x y <;> simp [h1, h2, ih]
theorem at_sum (l : List Rw) (x y : Int) : sumL ltT (atL (sumL ltS l) x y) = sumL ltT (atL l x y) :=
  sumL_congr ltT_ord fun th => by rw [at_tot, at_tot, sumL_wsum ltS_ord]
theorem atL_absF (l : List Rw) (x y : Int) : absum (atL l x y) ≤ absum l := by
  induction l with
  | nil => simp [atL, absum]
  | cons r l ih =>
    unfold atL at ih ⊢
    rw [List.filter_cons]
    by_cases h : leB r.1.2.1 r.1.2.2 x y = true
    · simp only [h, if_true, List.map_cons, absum]; omega
    · rw [if_neg h]; simp only [absum]; omega
theorem atL_lenF (l : List Rw) (x y : Int) : (atL l x y).length ≤ l.length := by
  unfold atL; rw [List.length_map]; exact List.length_filter_le _ _
theorem rok_absF {l : List Rw} (h : rokB l = true) : absum l ≤ 39999600 := by
  have h1 := absum_le (l := l) (c := 99999) fun r hr => rw_diff (rok_at h hr)
  have h2 := rok_len h
  have : (99999 : Int) * l.length ≤ 39999600 := by omega
  omega
theorem atL_k {l : List Rw} (h : rokB l = true) (x y : Int) : ∀ r ∈ atL l x y, itK r.1 := fun r hr => by
  unfold atL at hr
  obtain ⟨q, hq, rfl⟩ := List.mem_map.1 hr
  exact rw_k (rok_at h (List.mem_filter.1 hq).1)
theorem items_sokF (l : List Rw) (x y : Int) : sokB (itemsL l x y) = true := by
  unfold itemsL; split
  · rename_i h
    rw [Bool.and_eq_true] at h
    exact sum_sok (Nat.le_trans (atL_lenF l x y) (rok_len h.1)) (atL_k h.1 x y) (by have := atL_absF l x y; have := rok_absF h.1; omega)
  · exact sok_nil
theorem items_abs {l : List Rw} (x y : Int) : absum (itemsL l x y) ≤ absum l := by
  unfold itemsL; split
  · exact Int.le_trans (sum_absI _) (atL_absF l x y)
  · exact absum_pos l
theorem items_fewR {l : List Rw} (x y : Int) : (itemsL l x y).length ≤ l.length := by
  unfold itemsL; split
  · exact Nat.le_trans (sumL_len _ _) (atL_lenF l x y)
  · simp
/-- P36: changes of each sum up to what is made of all. -/
theorem each_items {l : List Rw} {how : Int} (h : rokB l = true) (ha : absum l ≤ 99999) {x y : Int} (hx : okB x y = true) : itemsL (feachL l how) x y = eachS (itemsL l x y) how := by
  cases hw : inB how 1 7
  · rw [feach_no2 hw, each_no2 hw, items_yes rok_nil hx]; rfl
  · rw [items_yes (feach_rok l how) hx, feach_sum h hw ha, at_sum, at_each, each_yes (items_sokF l x y) hw, items_yes h hx]
    refine sumL_congr ltT_ord fun z => ?_
    rw [each_tot, each_tot, sumL_wsum ltT_ord]

def pairGR (z : Sp) (x y : Sp) : Int := if x.1.1 = y.1.1 ∧ jnS x y = z then 1 else 0
theorem rowJ_tot (x : Rw) (t : List Rw) (z : Sp) : tot (rowJ x t) z = x.2 * wsum (pairGR z x.1) t := by
  induction t with
  | nil => simp [rowJ, tot, wsum]
  | cons y t ih =>
    unfold rowJ at ih ⊢
    rw [List.filter_cons]
    by_cases h : x.1.1.1 = y.1.1.1
    · simp only [h, decide_true, if_true, List.map_cons, tot, wsum]
      rw [← h, ih]
      unfold pairGR
      by_cases e : jnS x.1 y.1 = z
      · rw [if_pos e, if_pos ⟨h, e⟩, Int.mul_add]; simp
      · rw [if_neg e, if_neg (fun c => e c.2), Int.mul_add]; simp
    · rw [if_neg (by simpa using h), ih, wsum]
      have : pairGR z x.1 y.1 = 0 := if_neg fun c => h c.1
      rw [this]; simp
theorem pairR_tot (s t : List Rw) (z : Sp) : tot (pairR s t) z = wsum (fun x => wsum (pairGR z x) t) s := by
  induction s with
  | nil => rfl
  | cons x s ih =>
    show tot (_ ++ pairR s t) z = _
    rw [tot_append, ih, rowJ_tot]; rfl
theorem pairR_mem {s t : List Rw} {r : Rw} (h : r ∈ pairR s t) : ∃ x ∈ s, ∃ y ∈ t, x.1.1.1 = y.1.1.1 ∧ r = (jnS x.1 y.1, x.2 * y.2) := by
  unfold pairR at h
  obtain ⟨x, hx, h⟩ := List.mem_flatMap.1 h
  obtain ⟨y, hy, rfl⟩ := List.mem_map.1 h
  obtain ⟨hy, e⟩ := List.mem_filter.1 hy
  exact ⟨x, hx, y, hy, by simpa using e, rfl⟩
theorem pairR_len (s t : List Rw) : (pairR s t).length ≤ s.length * t.length := by
  induction s with
  | nil => simp [pairR]
  | cons x s ih =>
    show (rowJ x t ++ pairR s t).length ≤ _
    rw [List.length_append, List.length_cons, Nat.add_mul]
    have : (rowJ x t).length ≤ t.length := by unfold rowJ; rw [List.length_map]; exact List.length_filter_le _ _
    omega
theorem rowJ_abs (x : Rw) (t : List Rw) : absum (rowJ x t) ≤ (x.2.natAbs : Int) * absum t := by
  induction t with
  | nil => simp [rowJ, absum]
  | cons y t ih =>
    unfold rowJ at ih ⊢
    rw [List.filter_cons]
    have hp : (0 : Int) ≤ (x.2.natAbs : Int) * (y.2.natAbs : Int) := Int.mul_nonneg (by omega) (by omega)
    by_cases h : x.1.1.1 = y.1.1.1
    · simp only [h, decide_true, if_true, List.map_cons, absum]
      rw [← h, Int.mul_add, Int.natAbs_mul]
      have : ((x.2.natAbs * y.2.natAbs : Nat) : Int) = (x.2.natAbs : Int) * (y.2.natAbs : Int) := by simp
      omega
    · rw [if_neg (by simpa using h)]
      simp only [absum, Int.mul_add]
      omega
theorem pairR_abs (s t : List Rw) : absum (pairR s t) ≤ absum s * absum t := by
  induction s with
  | nil => simp [pairR, absum]
  | cons x s ih =>
    show absum (rowJ x t ++ pairR s t) ≤ _
    rw [absum_append]
    have := rowJ_abs x t
    simp only [absum, Int.add_mul]
    omega
theorem pairR_small {s t : List Rw} {c d : Int} (h1 : absum s ≤ c) (h2 : absum t ≤ d) : absum (pairR s t) ≤ c * d := by
  have h3 := pairR_abs s t
  have h4 : absum s * absum t ≤ c * absum t := Int.mul_le_mul_of_nonneg_right h1 (absum_pos t)
  have h5 : c * absum t ≤ c * d := Int.mul_le_mul_of_nonneg_left h2 (Int.le_trans (absum_pos s) h1)
  omega
theorem pairR_key {s t : List Rw} (hs : rokB s = true) (ht : rokB t = true) : ∀ r ∈ pairR s t, itK r.1.1 ∧ okB r.1.2.1 r.1.2.2 = true := fun r hr => by
  obtain ⟨x, hx, y, hy, _, rfl⟩ := pairR_mem hr
  have kx := rok_at hs hx
  have ky := rok_at ht hy
  obtain ⟨h1, h2, _⟩ := rw_k kx
  exact ⟨⟨h1, h2, by simp only [jnS, pv]; omega, by simp only [jnS, pv]; omega⟩, jn_ok (rw_time kx) (rw_time ky)⟩
theorem fjoin_sum {a b : List Rw} (ha : rokB a = true) (hb : rokB b = true) (hl : a.length * b.length ≤ 400) {c d : Int} (h1 : absum a ≤ c) (h2 : absum b ≤ d) (hc : c * d ≤ 99999) : fjoinL a b = sumL ltS (pairR a b) := by
  rw [fjoin_yes ha hb]
  exact sumF_ok (sum_rok (Nat.le_trans (pairR_len a b) hl) (fun r hr => key_ok (pairR_key ha hb r hr).1 (pairR_key ha hb r hr).2) (Int.le_trans (pairR_small h1 h2) hc))
theorem jn_le {a b c d x y : Int} (h : okB a b = true) (h' : okB c d = true) : leB (jnA a b c d) (jnB a b c d) x y = (leB a b x y && leB c d x y) := by
  obtain ⟨e1, e2⟩ := jn_eq h h'
  rw [Bool.eq_iff_iff, Bool.and_eq_true, leB_iff, leB_iff, leB_iff]
  constructor
  · rintro ⟨_, h2, h3, h4⟩; rw [e1] at h3; rw [e2] at h4; exact ⟨⟨h, h2, by omega, by omega⟩, h', h2, by omega, by omega⟩
  · rintro ⟨⟨_, h2, h3, h4⟩, _, _, h5, h6⟩; exact ⟨jn_ok h h', h2, by rw [e1]; omega, by rw [e2]; omega⟩
theorem at_cons (r : Rw) (l : List Rw) (x y : Int) : atL (r :: l) x y = if leB r.1.2.1 r.1.2.2 x y then (r.1.1, r.2) :: atL l x y else atL l x y := by
  unfold atL; rw [List.filter_cons]; split <;> rfl
theorem rowJ_cons (x y : Rw) (t : List Rw) : rowJ x (y :: t) = if x.1.1.1 = y.1.1.1 then (jnS x.1 y.1, x.2 * y.2) :: rowJ x t else rowJ x t := by
  unfold rowJ; rw [List.filter_cons]
  by_cases h : x.1.1.1 = y.1.1.1 <;> simp [h]
theorem at_row {x : Rw} {t : List Rw} (hx : okB x.1.2.1 x.1.2.2 = true) (ht : ∀ r ∈ t, okB r.1.2.1 r.1.2.2 = true) (X Y : Int) :
    atL (rowJ x t) X Y = if leB x.1.2.1 x.1.2.2 X Y then ((atL t X Y).filter fun y => decide (x.1.1.1 = y.1.1)).map fun y => ((x.1.1.1, pv x.1.1.2 y.1.2), x.2 * y.2) else [] := by
  induction t with
  | nil => simp [rowJ, atL]
  | cons y t ih =>
    have ih := ih (fun r hr => ht r (by simp [hr]))
    have e := jn_le (x := X) (y := Y) hx (ht y (by simp))
    rw [rowJ_cons, at_cons y]
    by_cases h1 : x.1.1.1 = y.1.1.1
    · rw [if_pos h1, at_cons, ih]
      have e' : leB (jnS x.1 y.1).2.1 (jnS x.1 y.1).2.2 X Y = (leB x.1.2.1 x.1.2.2 X Y && leB y.1.2.1 y.1.2.2 X Y) := e
      rw [e']
      cases h2 : leB x.1.2.1 x.1.2.2 X Y <;> cases h3 : leB y.1.2.1 y.1.2.2 X Y <;> simp [h1, jnS]
    · rw [if_neg h1, ih]
      cases h2 : leB x.1.2.1 x.1.2.2 X Y <;> cases h3 : leB y.1.2.1 y.1.2.2 X Y <;> simp [h1]
theorem at_append (l m : List Rw) (x y : Int) : atL (l ++ m) x y = atL l x y ++ atL m x y := by simp [atL]
theorem at_pair {s t : List Rw} (hs : ∀ r ∈ s, okB r.1.2.1 r.1.2.2 = true) (ht : ∀ r ∈ t, okB r.1.2.1 r.1.2.2 = true) (X Y : Int) : atL (pairR s t) X Y = pairT (atL s X Y) (atL t X Y) := by
  induction s with
  | nil => rfl
  | cons x s ih =>
    show atL (rowJ x t ++ pairR s t) X Y = _
    rw [at_append, ih (fun r hr => hs r (by simp [hr])), at_row (hs x (by simp)) ht]
    cases h2 : leB x.1.2.1 x.1.2.2 X Y
    · simp [atL, h2]
    · simp only [if_true]
      have : atL (x :: s) X Y = (x.1.1, x.2) :: atL s X Y := by simp [atL, h2]
      rw [this]; rfl
/-- P37: changes of pairs sum up to pairs of all. -/
theorem join_items {a b : List Rw} (ha : rokB a = true) (hb : rokB b = true) (hl : a.length * b.length ≤ 400) {c d : Int} (h1 : absum a ≤ c) (h2 : absum b ≤ d) (hc : c * d ≤ 99999) {x y : Int} (hx : okB x y = true) :
    itemsL (fjoinL a b) x y = joinS (itemsL a x y) (itemsL b x y) := by
  rw [items_yes (fjoin_rok a b) hx, fjoin_sum ha hb hl h1 h2 hc, at_sum, at_pair (fun r hr => rw_time (rok_at ha hr)) (fun r hr => rw_time (rok_at hb hr)), joinS_yes (items_sokF a x y) (items_sokF b x y), items_yes ha hx, items_yes hb hx]
  refine sumL_congr ltT_ord fun z => ?_
  rw [pair_tot, pair_tot, sumL_wsum ltT_ord]
  refine wsum_congr fun r _ => ?_
  rw [sumL_wsum ltT_ord]
/-- P42. -/
theorem each_bothR {a b : List Rw} {how : Int} (ha : rokB a = true) (hb : rokB b = true) (hl : a.length + b.length ≤ 400) (hs : absum a + absum b ≤ 99999) : feachL (bothB a b) how = bothB (feachL a how) (feachL b how) := by
  have p1 := absum_pos a
  have p2 := absum_pos b
  cases hw : inB how 1 7
  · rw [feach_no2 hw, feach_no2 hw, feach_no2 hw]; rfl
  · have e1 : absum (bothB a b) ≤ 99999 := Int.le_trans (bothB_abs a b) hs
    have f1 := feach_sum ha hw (by omega)
    have f2 := feach_sum hb hw (by omega)
    have l1 : (feachL a how).length ≤ a.length := by rw [f1]; exact Nat.le_trans (sumL_len _ _) (eachR_len _ _)
    have l2 : (feachL b how).length ≤ b.length := by rw [f2]; exact Nat.le_trans (sumL_len _ _) (eachR_len _ _)
    have s1 : absum (feachL a how) ≤ absum a := by rw [f1]; exact Int.le_trans (sum_absR _) (eachR_abs _ _)
    have s2 : absum (feachL b how) ≤ absum b := by rw [f2]; exact Int.le_trans (sum_absR _) (eachR_abs _ _)
    rw [feach_sum (bothB_rok a b) hw e1, bothB_sum (feach_rok a how) (feach_rok b how) (by omega) (by omega), f1, f2, bothB_sum ha hb hl hs]
    refine sumL_congr ltS_ord fun z => ?_
    rw [eachR_tot, sumL_wsum ltS_ord, wsum_append, tot_append, sumL_tot ltS_ord, sumL_tot ltS_ord, eachR_tot, eachR_tot]
theorem both_few (a b : List Rw) : (bothB a b).length ≤ a.length + b.length := by
  unfold bothB; split
  · rw [← List.length_append]; exact sumF_len _
  · simp
/-- P41. -/
theorem join_bothR {a b c : List Rw} (ha : rokB a = true) (hb : rokB b = true) (hc : rokB c = true) (la : a.length ≤ 11) (lb : b.length ≤ 11) (lc : c.length ≤ 11) (sa : absum a ≤ 33) (sb : absum b ≤ 33) (sc : absum c ≤ 33) :
    fjoinL (bothB a c) b = bothB (fjoinL a b) (fjoinL c b) ∧ fjoinL a (bothB b c) = bothB (fjoinL a b) (fjoinL a c) := by
  have few : ∀ {p q : List Rw}, p.length ≤ 11 → q.length ≤ 11 → p.length * q.length ≤ 121 := fun h h' => Nat.mul_le_mul h h'
  have J : ∀ {p q : List Rw}, rokB p = true → rokB q = true → p.length ≤ 11 → q.length ≤ 11 → absum p ≤ 33 → absum q ≤ 33 → fjoinL p q = sumL ltS (pairR p q) ∧ (fjoinL p q).length ≤ 121 ∧ absum (fjoinL p q) ≤ 1089 := fun {p q} h1 h2 h3 h4 h5 h6 => by
    have e := fjoin_sum h1 h2 (by have := few h3 h4; omega) h5 h6 (by omega)
    rw [e]
    exact ⟨rfl, Nat.le_trans (sumL_len _ _) (Nat.le_trans (pairR_len _ _) (few h3 h4)), Int.le_trans (sum_absR _) (pairR_small h5 h6)⟩
  obtain ⟨e1, n1, s1⟩ := J ha hb la lb sa sb
  obtain ⟨e2, n2, s2⟩ := J hc hb lc lb sc sb
  obtain ⟨e3, n3, s3⟩ := J ha hc la lc sa sc
  constructor
  · have hbs := bothB_sum ha hc (by omega) (by omega)
    rw [fjoin_sum (bothB_rok a c) hb (Nat.le_trans (Nat.mul_le_mul (Nat.le_trans (both_few a c) (show _ ≤ 22 by omega)) lb) (by omega)) (Int.le_trans (bothB_abs a c) (show _ ≤ 66 by omega)) sb (by omega), bothB_sum (fjoin_rok a b) (fjoin_rok c b) (by omega) (by omega), e1, e2, hbs]
    refine sumL_congr ltS_ord fun z => ?_
    rw [pairR_tot, sumL_wsum ltS_ord, wsum_append, tot_append, sumL_tot ltS_ord, sumL_tot ltS_ord, pairR_tot, pairR_tot]
  · have hbs := bothB_sum hb hc (by omega) (by omega)
    rw [fjoin_sum ha (bothB_rok b c) (Nat.le_trans (Nat.mul_le_mul la (Nat.le_trans (both_few b c) (show _ ≤ 22 by omega))) (by omega)) sa (Int.le_trans (bothB_abs b c) (show _ ≤ 66 by omega)) (by omega), bothB_sum (fjoin_rok a b) (fjoin_rok a c) (by omega) (by omega), e1, e3, hbs]
    refine sumL_congr ltS_ord fun z => ?_
    rw [pairR_tot, tot_append, sumL_tot ltS_ord, sumL_tot ltS_ord, pairR_tot, pairR_tot, ← wsum_add]
    refine wsum_congr fun r _ => ?_
    rw [sumL_wsum ltS_ord, wsum_append]
/-- P43. -/
theorem fjoin_times {a b : List Rw} {r : Rw} (h : r ∈ fjoinL a b) : ∃ x ∈ a, ∃ y ∈ b, r.1.2 = (jnA x.1.2.1 x.1.2.2 y.1.2.1 y.1.2.2, jnB x.1.2.1 x.1.2.2 y.1.2.1 y.1.2.2) := by
  unfold fjoinL at h
  split at h
  · have hm : r ∈ sumL ltS (pairR a b) := by
      rw [sumF_eq] at h; split at h
      · exact h
      · simp at h
    obtain ⟨q, hq, e⟩ := sumL_key hm
    obtain ⟨x, hx, y, hy, _, rfl⟩ := pairR_mem hq
    exact ⟨x, hx, y, hy, by rw [← e]; rfl⟩
  · simp at h
theorem fjoin_nil2 (a : List Rw) : fjoinL a [] = [] := by
  unfold fjoinL; split
  · have : pairR a [] = [] := by unfold pairR rowJ; simp
    rw [this]; rfl
  · rfl
end Go.Proofs.Ytlddhfimiignaaa
