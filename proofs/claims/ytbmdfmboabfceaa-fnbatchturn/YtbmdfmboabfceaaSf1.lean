/- The times of rows, in order: plain facts. -/
import Derived.Test.YtbmdfmboabfceaaSf
import Derived.Test.YtbmdfmboabfceaaFr13
namespace Go.Proofs.Ytbmdfmboabfceaa

/-- The times, one by one, in order. -/
def gT (i : Nat) : Int × Int := (((i / 8 : Nat) : Int), ((i % 8 : Nat) : Int))
def hasT (l : List Rw) (t : Int × Int) : Bool := l.any fun r => decide (r.1.2 = t)
def timesTo (l : List Rw) (n : Nat) : List (Int × Int) := ((List.range n).map gT).filter (hasT l)
def timesL (l : List Rw) : List (Int × Int) := if rokB l then timesTo l 64 else []
theorem timesTo_succ (l : List Rw) (n : Nat) : timesTo l (n + 1) = timesTo l n ++ (if hasT l (gT n) then [gT n] else []) := by
  unfold timesTo
  rw [List.range_succ, List.map_append, List.filter_append]
  congr 1
  by_cases h : hasT l (gT n) <;> simp [h]
theorem timesTo_len (l : List Rw) (n : Nat) : (timesTo l n).length ≤ n := by
  unfold timesTo
  exact Nat.le_trans (List.length_filter_le _ _) (by simp)
theorem times_len (l : List Rw) : (timesL l).length ≤ 400 := by
  unfold timesL
  split
  · exact Nat.le_trans (timesTo_len l 64) (by omega)
  · simp
theorem times_no {l : List Rw} (h : rokB l = false) : timesL l = [] := by simp [timesL, h]
theorem times_yes {l : List Rw} (h : rokB l = true) : timesL l = timesTo l 64 := by simp [timesL, h]
theorem ltT_iff {a b c d : Int} : ltT (a, b) (c, d) = true ↔ a < c ∨ (a = c ∧ b < d) := by simp [ltT]
theorem times_srt (l : List Rw) (n : Nat) : (timesTo l n).Pairwise fun p q => ltT p q = true := by
  refine List.Pairwise.filter _ ?_
  rw [List.pairwise_map]
  refine List.pairwise_lt_range.imp ?_
  intro a b h
  exact ltT_iff.2 (by omega)
theorem has_iff {l : List Rw} {t : Int × Int} : hasT l t = true ↔ ∃ r ∈ l, r.1.2 = t := by simp [hasT]
theorem times_mem {l : List Rw} (h : rokB l = true) (t : Int × Int) : t ∈ timesTo l 64 ↔ ∃ r ∈ l, r.1.2 = t := by
  unfold timesTo
  rw [List.mem_filter, has_iff]
  constructor
  · exact fun h => h.2
  · rintro ⟨r, hr, rfl⟩
    refine ⟨?_, r, hr, rfl⟩
    have h2 := rw_time (rok_at h hr)
    rw [okB_iff] at h2
    obtain ⟨⟨kv, A, B⟩, d⟩ := r
    dsimp only at h2 ⊢
    rw [List.mem_map]
    refine ⟨A.toNat * 8 + B.toNat, by rw [List.mem_range]; omega, ?_⟩
    unfold gT
    refine Prod.ext ?_ ?_
    · show ((_ / 8 : Nat) : Int) = A
      omega
    · show ((_ % 8 : Nat) : Int) = B
      omega
theorem order_ext {l m : List (Int × Int)} (hl : l.Pairwise fun p q => ltT p q = true) (hm : m.Pairwise fun p q => ltT p q = true) (h : ∀ t, t ∈ l ↔ t ∈ m) : l = m := by
  have e : l.map (fun t => (t, (1 : Int))) = m.map (fun t => (t, (1 : Int))) := by
    refine srt_ext ltT_ord ?_ ?_ ?_
    · unfold Srt; rw [List.pairwise_map]; exact hl
    · unfold Srt; rw [List.pairwise_map]; exact hm
    · intro r
      constructor
      · intro hr
        obtain ⟨t, ht, rfl⟩ := List.mem_map.1 hr
        exact List.mem_map.2 ⟨t, (h t).1 ht, rfl⟩
      · intro hr
        obtain ⟨t, ht, rfl⟩ := List.mem_map.1 hr
        exact List.mem_map.2 ⟨t, (h t).2 ht, rfl⟩
  have := congrArg (List.map Prod.fst) e
  simpa [Function.comp_def] using this
theorem tm_at {l : List (Int × Int)} {i : Nat} (h : i < l.length) : l[i] = (tA l i, tB l i) := by simp [tA, tB, h]
theorem comp_srt {l : List (Int × Int)} (hs : l.Pairwise fun p q => ltT q p = false) : (compTo l l.length).Pairwise fun p q => ltT p q = true := by
  have hg : ∀ i j, i < j → j < l.length → ¬ (tA l j < tA l i ∨ (tA l j = tA l i ∧ tB l j < tB l i)) := by
    intro i j hij hj
    have h1 := List.pairwise_iff_getElem.1 hs i j (by omega) hj hij
    rw [tm_at (show i < l.length by omega), tm_at hj] at h1
    intro hn
    rw [ltT_iff.2 hn] at h1; cases h1
  unfold compTo
  rw [List.pairwise_map]
  have h0 : ((List.range l.length).filter (kp l)).Pairwise (fun a b => a < b ∧ b < l.length ∧ kp l b = true) := by
    rw [List.pairwise_filter]
    have h1 : (List.range l.length).Pairwise (fun a b => a < b) := List.pairwise_lt_range
    rw [List.pairwise_iff_getElem] at h1 ⊢
    intro i j hi hj hij _ hk
    refine ⟨h1 i j hi hj hij, ?_, hk⟩
    simpa using hj
  refine h0.imp ?_
  rintro a b ⟨hab, hb, hk⟩
  refine ltT_iff.2 ?_
  have h1 := hg a b hab hb
  have h2 : ¬ (tA l b = tA l (b - 1) ∧ tB l b = tB l (b - 1)) := by
    simp only [kp, decide_eq_true_eq] at hk
    rcases hk with e | e
    · omega
    · exact e
  have h3 := hg (b - 1) b (by omega) hb
  have h4 : a = b - 1 ∨ ¬ (tA l (b - 1) < tA l a ∨ (tA l (b - 1) = tA l a ∧ tB l (b - 1) < tB l a)) := by
    by_cases e : a = b - 1
    · exact .inl e
    · exact .inr (hg a (b - 1) (by omega) (by omega))
  rcases h4 with e | h4
  · rw [← e] at h2; omega
  · omega
theorem comp_has (l : List (Int × Int)) : ∀ m i, i < m → (tA l i, tB l i) ∈ compTo l m
  | 0, i, h => by omega
  | m + 1, i, h => by
    rw [comp_succ]
    by_cases e : i < m
    · exact List.mem_append_left _ (comp_has l m i e)
    · obtain rfl : i = m := by omega
      by_cases hk : kp l i = true
      · rw [if_pos hk]; exact List.mem_append_right _ (by simp)
      · have h2 : ¬ (i = 0 ∨ ¬ (tA l i = tA l (i - 1) ∧ tB l i = tB l (i - 1))) := fun h => hk (by unfold kp; exact decide_eq_true h)
        have h3 : i ≠ 0 := fun h => h2 (.inl h)
        have h4 : tA l i = tA l (i - 1) ∧ tB l i = tB l (i - 1) := Classical.byContradiction fun h => h2 (.inr h)
        rw [h4.1, h4.2]
        exact List.mem_append_left _ (comp_has l i (i - 1) (by omega))
theorem comp_mem (l : List (Int × Int)) (t : Int × Int) : t ∈ compTo l l.length ↔ t ∈ l := by
  constructor
  · intro h
    unfold compTo at h
    obtain ⟨j, hj, rfl⟩ := List.mem_map.1 h
    have hj' : j < l.length := by simpa using (List.mem_filter.1 hj).1
    have := List.getElem_mem hj'
    rwa [tm_at hj'] at this
  · intro h
    obtain ⟨j, hj, rfl⟩ := List.getElem_of_mem h
    rw [tm_at hj]
    exact comp_has l _ j hj
theorem comp_times {l : List Rw} {m : List (Int × Int)} (h : rokB l = true) (hp : m.Perm (l.map fun r => r.1.2)) (hs : m.Pairwise fun p q => ltT q p = false) : compTo m m.length = timesL l := by
  rw [times_yes h]
  refine order_ext (comp_srt hs) (times_srt l 64) fun t => ?_
  rw [comp_mem, times_mem h, hp.mem_iff, List.mem_map]
end Go.Proofs.Ytbmdfmboabfceaa
