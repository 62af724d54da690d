/- Plain facts on lists of numbers under keys: what they sum up to, key by key, and the one list in order that says the same. -/
namespace Go.Proofs.Ytbmdfmboabfceaa

section
variable {K : Type}

/-- All numbers of a list under a key, together. -/
def tot [DecidableEq K] : List (K × Int) → K → Int
  | [], _ => 0
  | r :: l, s => (if r.1 = s then r.2 else 0) + tot l s
/-- All numbers of a list, each as often as its key says, together. -/
def wsum (g : K → Int) : List (K × Int) → Int
  | [] => 0
  | r :: l => r.2 * g r.1 + wsum g l
theorem tot_append [DecidableEq K] (l m : List (K × Int)) (s : K) : tot (l ++ m) s = tot l s + tot m s := by
  induction l with
  | nil => simp [tot]
  | cons r l ih => simp only [List.cons_append, tot, ih]; omega
theorem tot_snoc [DecidableEq K] (l : List (K × Int)) (r : K × Int) (s : K) : tot (l ++ [r]) s = tot l s + (if r.1 = s then r.2 else 0) := by
  rw [tot_append]; simp [tot]
theorem tot_reverse [DecidableEq K] (l : List (K × Int)) (s : K) : tot l.reverse s = tot l s := by
  induction l with
  | nil => rfl
  | cons r l ih => rw [List.reverse_cons, tot_snoc, ih]; simp only [tot]; omega
theorem tot_perm [DecidableEq K] {l m : List (K × Int)} (h : l.Perm m) (s : K) : tot l s = tot m s := by
  induction h with
  | nil => rfl
  | cons x _ ih => simp only [tot, ih]
  | swap x y l => simp only [tot]; omega
  | trans _ _ h1 h2 => rw [h1, h2]
theorem tot_of_not [DecidableEq K] {l : List (K × Int)} {s : K} (h : ∀ r ∈ l, r.1 ≠ s) : tot l s = 0 := by
  induction l with
  | nil => rfl
  | cons r l ih =>
    simp only [tot]
    rw [if_neg (h r (by simp)), ih (fun q hq => h q (by simp [hq]))]; rfl
theorem tot_eq_wsum [DecidableEq K] (l : List (K × Int)) (s : K) : tot l s = wsum (fun x => if x = s then 1 else 0) l := by
  induction l with
  | nil => rfl
  | cons r l ih => simp only [tot, wsum, ih]; split <;> omega
theorem wsum_append (g : K → Int) (l m : List (K × Int)) : wsum g (l ++ m) = wsum g l + wsum g m := by
  induction l with
  | nil => simp [wsum]
  | cons r l ih => simp only [List.cons_append, wsum, ih]; omega
theorem wsum_congr {g h : K → Int} {l : List (K × Int)} (e : ∀ r ∈ l, g r.1 = h r.1) : wsum g l = wsum h l := by
  induction l with
  | nil => rfl
  | cons r l ih => simp only [wsum]; rw [e r (by simp), ih (fun q hq => e q (by simp [hq]))]
/-- Rows under other keys. -/
theorem tot_map {J : Type} [DecidableEq J] (f : K → J) (l : List (K × Int)) (s : J) : tot (l.map fun r => (f r.1, r.2)) s = wsum (fun x => if f x = s then 1 else 0) l := by
  induction l with
  | nil => rfl
  | cons r l ih => simp only [List.map_cons, tot, wsum, ih]; split <;> omega
/-- Some rows, under other keys. -/
theorem tot_some {J : Type} [DecidableEq J] (p : K → Bool) (f : K → J) (l : List (K × Int)) (s : J) : tot ((l.filter fun r => p r.1).map fun r => (f r.1, r.2)) s = wsum (fun x => if p x = true ∧ f x = s then 1 else 0) l := by
  induction l with
  | nil => rfl
  | cons r l ih =>
    rw [List.filter_cons]
    by_cases hp : p r.1 = true
    · simp only [hp, if_true, List.map_cons, tot, wsum, ih, true_and]; split <;> omega
    · rw [if_neg hp, ih]; simp [wsum, hp]
theorem tot_neg [DecidableEq K] (l : List (K × Int)) (s : K) : tot (l.map fun r => (r.1, -r.2)) s = - tot l s := by
  induction l with
  | nil => rfl
  | cons r l ih => simp only [List.map_cons, tot, ih]; split <;> omega

/-- An order of keys. -/
structure Ord (lt : K → K → Bool) : Prop where
  irr : ∀ a, lt a a = false
  trans : ∀ a b c, lt a b = true → lt b c = true → lt a c = true
  tri : ∀ a b, lt a b = false → lt b a = false → a = b
variable {lt : K → K → Bool}
/-- In order, each key once. -/
def Srt (lt : K → K → Bool) (l : List (K × Int)) : Prop := l.Pairwise fun p q => lt p.1 q.1 = true
def Nz (l : List (K × Int)) : Prop := ∀ r ∈ l, r.2 ≠ 0
/-- A row put into rows in order. -/
def putL (lt : K → K → Bool) (r : K × Int) : List (K × Int) → List (K × Int)
  | [] => [r]
  | x :: l => if lt r.1 x.1 then r :: x :: l else if lt x.1 r.1 then x :: putL lt r l else (r.1, r.2 + x.2) :: l
theorem putL_tot [DecidableEq K] (O : Ord lt) (r : K × Int) (l : List (K × Int)) (s : K) : tot (putL lt r l) s = tot l s + (if r.1 = s then r.2 else 0) := by
  induction l with
  | nil => simp [putL, tot]
  | cons x l ih =>
    unfold putL
    by_cases h1 : lt r.1 x.1 = true
    · rw [if_pos h1]; simp only [tot]; omega
    · rw [if_neg h1]
      by_cases h2 : lt x.1 r.1 = true
      · rw [if_pos h2]; simp only [tot, ih]; omega
      · rw [if_neg h2]
        have e : r.1 = x.1 := O.tri _ _ (by simpa using h1) (by simpa using h2)
        simp only [tot, e]; split <;> omega
theorem putL_wsum (O : Ord lt) (g : K → Int) (r : K × Int) (l : List (K × Int)) : wsum g (putL lt r l) = wsum g l + r.2 * g r.1 := by
  induction l with
  | nil => simp [putL, wsum]
  | cons x l ih =>
    unfold putL
    by_cases h1 : lt r.1 x.1 = true
    · rw [if_pos h1]; simp only [wsum]; omega
    · rw [if_neg h1]
      by_cases h2 : lt x.1 r.1 = true
      · rw [if_pos h2]; simp only [wsum, ih]; omega
      · rw [if_neg h2]
        have e : r.1 = x.1 := O.tri _ _ (by simpa using h1) (by simpa using h2)
        simp only [wsum, e, Int.add_mul]; omega
theorem putL_mem {r : K × Int} {l : List (K × Int)} {q : K × Int} (h : q ∈ putL lt r l) : q.1 = r.1 ∨ q ∈ l := by
  induction l with
  | nil => simp [putL] at h; exact .inl (by rw [h])
  | cons x l ih =>
    unfold putL at h
    by_cases h1 : lt r.1 x.1 = true
    · rw [if_pos h1] at h
      rcases List.mem_cons.1 h with rfl | h
      · exact .inl rfl
      · exact .inr h
    · rw [if_neg h1] at h
      by_cases h2 : lt x.1 r.1 = true
      · rw [if_pos h2] at h
        rcases List.mem_cons.1 h with rfl | h
        · exact .inr (by simp)
        · rcases ih h with h | h
          · exact .inl h
          · exact .inr (by simp [h])
      · rw [if_neg h2] at h
        rcases List.mem_cons.1 h with rfl | h
        · exact .inl rfl
        · exact .inr (by simp [h])
theorem putL_srt (O : Ord lt) {r : K × Int} {l : List (K × Int)} (h : Srt lt l) : Srt lt (putL lt r l) := by
  induction l with
  | nil => simp [putL, Srt]
  | cons x l ih =>
    obtain ⟨hx, hl⟩ := List.pairwise_cons.1 h
    unfold putL
    by_cases h1 : lt r.1 x.1 = true
    · rw [if_pos h1]
      refine List.pairwise_cons.2 ⟨fun q hq => ?_, h⟩
      rcases List.mem_cons.1 hq with rfl | hq
      · exact h1
      · exact O.trans _ _ _ h1 (hx q hq)
    · rw [if_neg h1]
      by_cases h2 : lt x.1 r.1 = true
      · rw [if_pos h2]
        refine List.pairwise_cons.2 ⟨fun q hq => ?_, ih hl⟩
        rcases putL_mem hq with e | hq
        · rw [e]; exact h2
        · exact hx q hq
      · rw [if_neg h2]
        have e : r.1 = x.1 := O.tri _ _ (by simpa using h1) (by simpa using h2)
        refine List.pairwise_cons.2 ⟨fun q hq => ?_, hl⟩
        show lt r.1 q.1 = true
        rw [e]; exact hx q hq
theorem putL_len (lt : K → K → Bool) (r : K × Int) (l : List (K × Int)) : (putL lt r l).length ≤ l.length + 1 := by
  induction l with
  | nil => simp [putL]
  | cons x l ih =>
    unfold putL
    by_cases h1 : lt r.1 x.1 = true
    · rw [if_pos h1]; simp
    · rw [if_neg h1]
      by_cases h2 : lt x.1 r.1 = true
      · rw [if_pos h2]; simp; omega
      · rw [if_neg h2]; simp
/-- All rows put into one another. -/
def sumA (lt : K → K → Bool) (l : List (K × Int)) : List (K × Int) := l.foldl (fun m r => putL lt r m) []
theorem sumA_snoc (lt : K → K → Bool) (l : List (K × Int)) (r : K × Int) : sumA lt (l ++ [r]) = putL lt r (sumA lt l) := by
  unfold sumA; rw [List.foldl_append]; rfl
/-- A property of lists by what stands last. -/
theorem snoc_ind {A : Type} {p : List A → Prop} (h0 : p []) (h1 : ∀ l r, p l → p (l ++ [r])) (l : List A) : p l := by
  have : ∀ m : List A, p m.reverse := fun m => by
    induction m with
    | nil => exact h0
    | cons x m ih => rw [List.reverse_cons]; exact h1 _ _ ih
  have := this l.reverse
  rwa [List.reverse_reverse] at this
theorem sumA_tot [DecidableEq K] (O : Ord lt) (l : List (K × Int)) (s : K) : tot (sumA lt l) s = tot l s := by
  induction l using snoc_ind with
  | h0 => rfl
  | h1 l r ih => rw [sumA_snoc, putL_tot O, ih, tot_snoc]
theorem sumA_wsum (O : Ord lt) (g : K → Int) (l : List (K × Int)) : wsum g (sumA lt l) = wsum g l := by
  induction l using snoc_ind with
  | h0 => rfl
  | h1 l r ih => rw [sumA_snoc, putL_wsum O, ih, wsum_append]; simp [wsum]
theorem sumA_srt (O : Ord lt) (l : List (K × Int)) : Srt lt (sumA lt l) := by
  induction l using snoc_ind with
  | h0 => simp [sumA, Srt]
  | h1 l r ih => rw [sumA_snoc]; exact putL_srt O ih
theorem sumA_len (lt : K → K → Bool) (l : List (K × Int)) : (sumA lt l).length ≤ l.length := by
  induction l using snoc_ind with
  | h0 => simp [sumA]
  | h1 l r ih => rw [sumA_snoc]; have := putL_len lt r (sumA lt l); simp; omega
theorem sumA_key {l : List (K × Int)} {q : K × Int} (h : q ∈ sumA lt l) : ∃ r ∈ l, r.1 = q.1 := by
  induction l using snoc_ind generalizing q with
  | h0 => simp [sumA] at h
  | h1 l r ih =>
    rw [sumA_snoc] at h
    rcases putL_mem h with e | h
    · exact ⟨r, by simp, e.symm⟩
    · obtain ⟨r', h1, h2⟩ := ih h
      exact ⟨r', by simp [h1], h2⟩
/-- Rows summed up: in order, each key once, none of nothing. -/
def sumL (lt : K → K → Bool) (l : List (K × Int)) : List (K × Int) := (sumA lt l).filter fun r => decide (r.2 ≠ 0)
theorem filter_nz_tot [DecidableEq K] (l : List (K × Int)) (s : K) : tot (l.filter fun r => decide (r.2 ≠ 0)) s = tot l s := by
  induction l with
  | nil => rfl
  | cons r l ih =>
    rw [List.filter_cons]
    by_cases h : r.2 = 0
    · simp [h, tot]; simpa using ih
    · simp [h, tot]; simpa using ih
theorem filter_nz_wsum (g : K → Int) (l : List (K × Int)) : wsum g (l.filter fun r => decide (r.2 ≠ 0)) = wsum g l := by
  induction l with
  | nil => rfl
  | cons r l ih =>
    rw [List.filter_cons]
    by_cases h : r.2 = 0
    · simp [h, wsum]; simpa using ih
    · simp [h, wsum]; simpa using ih
theorem sumL_tot [DecidableEq K] (O : Ord lt) (l : List (K × Int)) (s : K) : tot (sumL lt l) s = tot l s := by
  unfold sumL; rw [filter_nz_tot, sumA_tot O]
theorem sumL_wsum (O : Ord lt) (g : K → Int) (l : List (K × Int)) : wsum g (sumL lt l) = wsum g l := by
  unfold sumL; rw [filter_nz_wsum, sumA_wsum O]
theorem sumL_srt (O : Ord lt) (l : List (K × Int)) : Srt lt (sumL lt l) := (sumA_srt O l).filter _
theorem sumL_nz (lt : K → K → Bool) (l : List (K × Int)) : Nz (sumL lt l) := fun r hr => by
  have := (List.mem_filter.1 hr).2; simpa using this
theorem sumL_len (lt : K → K → Bool) (l : List (K × Int)) : (sumL lt l).length ≤ l.length :=
  Nat.le_trans (List.length_filter_le _ _) (sumA_len lt l)
theorem sumL_key {l : List (K × Int)} {q : K × Int} (h : q ∈ sumL lt l) : ∃ r ∈ l, r.1 = q.1 := sumA_key (List.mem_filter.1 h).1
/-- What stands in rows in order. -/
theorem srt_tot [DecidableEq K] (O : Ord lt) {l : List (K × Int)} (h : Srt lt l) {r : K × Int} (hr : r ∈ l) : tot l r.1 = r.2 := by
  induction l with
  | nil => simp at hr
  | cons x l ih =>
    obtain ⟨hx, hl⟩ := List.pairwise_cons.1 h
    simp only [tot]
    rcases List.mem_cons.1 hr with rfl | hr
    · rw [if_pos rfl, tot_of_not (fun q hq e => by have := hx q hq; rw [e, O.irr] at this; cases this)]; omega
    · rw [if_neg (fun e => by have := hx r hr; rw [e, O.irr] at this; cases this), ih hl hr]; omega
theorem srt_mem [DecidableEq K] (O : Ord lt) {l : List (K × Int)} (h : Srt lt l) (hn : Nz l) (r : K × Int) : r ∈ l ↔ r.2 ≠ 0 ∧ tot l r.1 = r.2 := by
  constructor
  · exact fun hr => ⟨hn r hr, srt_tot O h hr⟩
  · rintro ⟨h0, h1⟩
    by_cases hx : ∃ q ∈ l, q.1 = r.1
    · obtain ⟨q, hq, e⟩ := hx
      have := srt_tot O h hq
      rw [e] at this
      obtain rfl : q = r := Prod.ext e (by omega)
      exact hq
    · exact absurd (tot_of_not fun q hq e => hx ⟨q, hq, e⟩) (by omega)
theorem srt_ext (O : Ord lt) : ∀ {l m : List (K × Int)}, Srt lt l → Srt lt m → (∀ r, r ∈ l ↔ r ∈ m) → l = m
  | [], [], _, _, _ => rfl
  | [], y :: m, _, _, h => by have := (h y).2 (by simp); simp at this
  | x :: l, [], _, _, h => by have := (h x).1 (by simp); simp at this
  | x :: l, y :: m, hl, hm, h => by
    obtain ⟨hx, hl'⟩ := List.pairwise_cons.1 hl
    obtain ⟨hy, hm'⟩ := List.pairwise_cons.1 hm
    have ne : ∀ {a b : K × Int}, lt a.1 b.1 = true → a ≠ b := fun {a b} h e => by rw [e, O.irr] at h; cases h
    have e : x = y := by
      rcases List.mem_cons.1 ((h x).1 (by simp)) with e | hxm
      · exact e
      · rcases List.mem_cons.1 ((h y).2 (by simp)) with e | hyl
        · exact e.symm
        · exact absurd rfl (ne (O.trans _ _ _ (hx y hyl) (hy x hxm)))
    subst e
    congr 1
    refine srt_ext O hl' hm' fun r => ⟨fun hr => ?_, fun hr => ?_⟩
    · rcases List.mem_cons.1 ((h r).1 (by simp [hr])) with e | h'
      · exact absurd e.symm (ne (hx r hr))
      · exact h'
    · rcases List.mem_cons.1 ((h r).2 (by simp [hr])) with e | h'
      · exact absurd e.symm (ne (hy r hr))
      · exact h'
/-- There is just one list in order, none of nothing, that says so. -/
theorem sumL_uniq [DecidableEq K] (O : Ord lt) {l m : List (K × Int)} (hs : Srt lt m) (hn : Nz m) (h : ∀ s, tot m s = tot l s) : m = sumL lt l :=
  srt_ext O hs (sumL_srt O l) fun r => by
    rw [srt_mem O hs hn, srt_mem O (sumL_srt O l) (sumL_nz lt l), h, sumL_tot O]
theorem sumL_congr [DecidableEq K] (O : Ord lt) {l m : List (K × Int)} (h : ∀ s, tot l s = tot m s) : sumL lt l = sumL lt m :=
  sumL_uniq O (sumL_srt O l) (sumL_nz lt l) fun s => by rw [sumL_tot O, h]
theorem sumL_self [DecidableEq K] (O : Ord lt) {l : List (K × Int)} (hs : Srt lt l) (hn : Nz l) : sumL lt l = l := (sumL_uniq O hs hn fun _ => rfl).symm
theorem wsum_of_tot [DecidableEq K] (O : Ord lt) (g : K → Int) {l m : List (K × Int)} (h : ∀ s, tot l s = tot m s) : wsum g l = wsum g m := by
  rw [← sumL_wsum O g l, ← sumL_wsum O g m, sumL_congr O h]
/-- How much there is at most. -/
def absum : List (K × Int) → Int
  | [] => 0
  | r :: l => r.2.natAbs + absum l
theorem absum_pos (l : List (K × Int)) : 0 ≤ absum l := by
  induction l with
  | nil => simp [absum]
  | cons r l ih => simp only [absum]; omega
theorem absum_append (l m : List (K × Int)) : absum (l ++ m) = absum l + absum m := by
  induction l with
  | nil => simp [absum]
  | cons r l ih => simp only [List.cons_append, absum, ih]; omega
theorem tot_abs [DecidableEq K] (l : List (K × Int)) (s : K) : -absum l ≤ tot l s ∧ tot l s ≤ absum l := by
  induction l with
  | nil => simp [absum, tot]
  | cons r l ih => have := absum_pos l; simp only [absum, tot]; split <;> omega
theorem absum_le {l : List (K × Int)} {c : Int} (h : ∀ r ∈ l, -c ≤ r.2 ∧ r.2 ≤ c) : absum l ≤ c * l.length := by
  induction l with
  | nil => simp [absum]
  | cons r l ih =>
    have h1 := h r (by simp)
    have h2 := ih fun q hq => h q (by simp [hq])
    simp only [absum, List.length_cons]
    have : c * ((l.length + 1 : Nat) : Int) = c * l.length + c := by rw [Int.natCast_add, Int.mul_add]; simp
    omega
theorem sumL_abs [DecidableEq K] (O : Ord lt) {l : List (K × Int)} {r : K × Int} (h : r ∈ sumL lt l) : -absum l ≤ r.2 ∧ r.2 ≤ absum l := by
  have := srt_tot O (sumL_srt O l) h
  rw [sumL_tot O] at this
  have := tot_abs l r.1
  omega
theorem absum_map {J : Type} (f : K → J) (l : List (K × Int)) : absum (l.map fun r => (f r.1, r.2)) = absum l := by
  induction l with
  | nil => rfl
  | cons r l ih => simp only [List.map_cons, absum, ih]
end
end Go.Proofs.Ytbmdfmboabfceaa
