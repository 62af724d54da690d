/- The clearing out of times that stand twice, one behind the other: the contract. -/
import Derived.Test.YtjkojbafifbdgaaGm1
import Derived.Test.YtjkojbafifbdgaaGa8
import Derived.Test.YtjkojbafifbdgaaGs2
/-! The clearing out of times that stand twice, one behind the other: the contract. -/
namespace Go.Proofs.Ytjkojbafifbdgaa
open Go.RowKit

/-- The time at j stays: it is the first, or another one than that before it. -/
def kp (l : List (Int × Int)) (j : Nat) : Bool := decide (j = 0 ∨ ¬ (tA l j = tA l (j - 1) ∧ tB l j = tB l (j - 1)))
def compTo (l : List (Int × Int)) (m : Nat) : List (Int × Int) := ((List.range m).filter (kp l)).map fun j => (tA l j, tB l j)
theorem comp_succ (l : List (Int × Int)) (m : Nat) : compTo l (m + 1) = compTo l m ++ (if kp l m then [(tA l m, tB l m)] else []) := by
  unfold compTo
  rw [List.range_succ, List.filter_append, List.map_append]
  congr 1
  by_cases h : kp l m <;> simp [h]
theorem comp_len (l : List (Int × Int)) (m : Nat) : (compTo l m).length ≤ m := by
  unfold compTo
  rw [List.length_map]
  exact Nat.le_trans (List.length_filter_le _ _) (by simp)
theorem range_get (l : List (Int × Int)) : ∀ m, m ≤ l.length → (List.range m).map (fun j => (tA l j, tB l j)) = l.take m := by
  intro m hm
  apply List.ext_getElem?
  intro i
  by_cases hi : i < m
  · rw [List.getElem?_take, if_pos hi, List.getElem?_eq_getElem (show i < l.length by omega)]
    simp [hi, tA, tB, show i < l.length by omega]
  · rw [List.getElem?_take, if_neg hi, List.getElem?_eq_none (by simp; omega)]
theorem comp_all {l : List (Int × Int)} {m : Nat} (hm : m ≤ l.length) (h : ∀ j, j < m → kp l j = true) : compTo l m = l.take m := by
  unfold compTo
  rw [List.filter_eq_self.2 (fun j hj => h j (List.mem_range.1 hj)), range_get l m hm]
theorem kp_no {l : List (Int × Int)} {m : Nat} (hm : 0 < m) (h1 : tA l m = tA l (m - 1)) (h2 : tB l m = tB l (m - 1)) : kp l m = false := by
  have : m ≠ 0 := by omega
  simp [kp, h1, h2, this]
theorem kp_one {l : List (Int × Int)} {j : Nat} (h : j < 1) : kp l j = true := by
  have : j = 0 := by omega
  simp [kp, this]
theorem kp_yes {l : List (Int × Int)} {m : Nat} (h : ¬ (tA l m = tA l (m - 1) ∧ tB l m = tB l (m - 1))) : kp l m = true := by
  unfold kp; exact decide_eq_true (.inr h)
/-- How far it has come: i are kept of the first j. -/
structure CompI (l : List (Int × Int)) (i j : Nat) (c : Array Value) : Prop where
  lt : i < j
  le : j ≤ l.length
  len : (compTo l j).length = i
  low : Fill c (compTo l j) i
  high : ∀ m, i ≤ m → m < l.length → c[m * 2]? = some (.int .i64 (tA l m)) ∧ c[m * 2 + 1]? = some (.int .i64 (tB l m))
theorem CompI.start {l : List (Int × Int)} {k : Nat} {c : Array Value} (hk : k < l.length) (hno : kp l k = false) (hyes : ∀ i, i < k → kp l i = true) (hf : Fill c l l.length) : CompI l k (k + 1) c := by
  have e : compTo l (k + 1) = l.take k := by
    rw [comp_succ, hno, comp_all (by omega) hyes]; simp
  refine ⟨by omega, hk, by rw [e, List.length_take]; omega, fun i hi => ?_, fun m _ hm => hf m hm⟩
  have e1 : tA (l.take k) i = tA l i ∧ tB (l.take k) i = tB l i := by
    have : i < (l.take k).length := by rw [List.length_take]; omega
    simp [tA, tB, hi]
  rw [e, e1.1, e1.2]
  exact hf i (by omega)
theorem CompI.skip {l : List (Int × Int)} {i j : Nat} {c : Array Value} (h : CompI l i j c) (hj : j < l.length) (hy : kp l j = false) : CompI l i (j + 1) c := by
  have e : compTo l (j + 1) = compTo l j := by rw [comp_succ, hy]; simp
  exact ⟨by have := h.lt; omega, hj, by rw [e]; exact h.len, by rw [e]; exact h.low, h.high⟩
theorem CompI.keep {l : List (Int × Int)} {i j : Nat} {c : Array Value} (h : CompI l i j c) (hj : j < l.length) (hs : l.length * 2 ≤ c.size) (hy : kp l j = true) :
    CompI l (i + 1) (j + 1) ((c.setIfInBounds (i * 2) (.int .i64 (tA l j))).setIfInBounds (i * 2 + 1) (.int .i64 (tB l j))) := by
  have hlt := h.lt
  have hlen := h.len
  have e : compTo l (j + 1) = compTo l j ++ [(tA l j, tB l j)] := by rw [comp_succ, hy]; rfl
  have hlow := h.low
  have h0 : Fill c (compTo l (j + 1)) i := by
    intro q hq
    have := hlow q hq
    rw [e]
    have e1 : tA (compTo l j ++ [(tA l j, tB l j)]) q = tA (compTo l j) q ∧ tB (compTo l j ++ [(tA l j, tB l j)]) q = tB (compTo l j) q := by
      generalize compTo l j = F at *
      have : q < F.length := by omega
      simp [tA, tB, List.getElem?_append, this]
    rw [e1.1, e1.2]; exact this
  have h1 := h0.step (k := i) (by omega)
  have e2 : tA (compTo l (j + 1)) i = tA l j ∧ tB (compTo l (j + 1)) i = tB l j := by
    rw [e]
    generalize compTo l j = F at *
    generalize tA l j = X
    generalize tB l j = Y
    subst hlen
    simp [tA, tB]
  rw [e2.1, e2.2] at h1
  refine ⟨by omega, hj, by rw [e, List.length_append]; simp [hlen], h1, fun m a b => ?_⟩
  have n1 : ¬ i * 2 + 1 = m * 2 := by omega
  have n2 : ¬ i * 2 = m * 2 := by omega
  have n3 : ¬ i * 2 + 1 = m * 2 + 1 := by omega
  have n4 : ¬ i * 2 = m * 2 + 1 := by omega
  simp only [Array.getElem?_setIfInBounds, n1, n2, n3, n4, if_false]
  exact h.high m (by omega) b

end Go.Proofs.Ytjkojbafifbdgaa

/-! The times of rows, in order: plain facts. -/
namespace Go.Proofs.Ytjkojbafifbdgaa

/-- The times, one by one, in order. -/
def gT (i : Nat) : Int × Int := (((i / 8 : Nat) : Int), ((i % 8 : Nat) : Int))
def hasT (l : List Rw) (t : Int × Int) : Bool := l.any fun r => decide (r.1.2 = t)
def timesTo (l : List Rw) (n : Nat) : List (Int × Int) := ((List.range n).map gT).filter (hasT l)
def timesL (l : List Rw) : List (Int × Int) := if rokB l then timesTo l 64 else []
theorem timesTo_succ (l : List Rw) (n : Nat) : timesTo l (n + 1) = timesTo l n ++ (if hasT l (gT n) then [gT n] else []) := by
  unfold timesTo
  rw [List.range_succ, List.map_append, List.filter_append]
  congr 1
  by_cases h : hasT l (gT n) <;> simp [h]
theorem timesTo_len (l : List Rw) (n : Nat) : (timesTo l n).length ≤ n := by
  unfold timesTo
  exact Nat.le_trans (List.length_filter_le _ _) (by simp)
theorem times_len (l : List Rw) : (timesL l).length ≤ 400 := by
  unfold timesL
  split
  · exact Nat.le_trans (timesTo_len l 64) (by omega)
  · simp
theorem times_no {l : List Rw} (h : rokB l = false) : timesL l = [] := by simp [timesL, h]
theorem times_yes {l : List Rw} (h : rokB l = true) : timesL l = timesTo l 64 := by simp [timesL, h]
theorem ltT_iff {a b c d : Int} : ltT (a, b) (c, d) = true ↔ a < c ∨ (a = c ∧ b < d) := by simp [ltT]
theorem times_srt (l : List Rw) (n : Nat) : (timesTo l n).Pairwise fun p q => ltT p q = true := by
  refine List.Pairwise.filter _ ?_
  rw [List.pairwise_map]
  refine List.pairwise_lt_range.imp ?_
  intro a b h
  exact ltT_iff.2 (by omega)
theorem has_iff {l : List Rw} {t : Int × Int} : hasT l t = true ↔ ∃ r ∈ l, r.1.2 = t := by simp [hasT]
theorem times_mem {l : List Rw} (h : rokB l = true) (t : Int × Int) : t ∈ timesTo l 64 ↔ ∃ r ∈ l, r.1.2 = t := by
  unfold timesTo
  rw [List.mem_filter, has_iff]
  constructor
  · exact fun h => h.2
  · rintro ⟨r, hr, rfl⟩
    refine ⟨?_, r, hr, rfl⟩
    have h2 := rw_time (rok_at h hr)
    rw [okB_iff] at h2
    obtain ⟨⟨kv, A, B⟩, d⟩ := r
    dsimp only at h2 ⊢
    rw [List.mem_map]
    refine ⟨A.toNat * 8 + B.toNat, by rw [List.mem_range]; omega, ?_⟩
    unfold gT
    refine Prod.ext ?_ ?_
    · show ((_ / 8 : Nat) : Int) = A
      omega
    · show ((_ % 8 : Nat) : Int) = B
      omega
theorem order_ext {l m : List (Int × Int)} (hl : l.Pairwise fun p q => ltT p q = true) (hm : m.Pairwise fun p q => ltT p q = true) (h : ∀ t, t ∈ l ↔ t ∈ m) : l = m := by
  have e : l.map (fun t => (t, (1 : Int))) = m.map (fun t => (t, (1 : Int))) := by
    refine srt_ext ltT_ord ?_ ?_ ?_
    · unfold Srt; rw [List.pairwise_map]; exact hl
    · unfold Srt; rw [List.pairwise_map]; exact hm
    · intro r
      constructor
      · intro hr
        obtain ⟨t, ht, rfl⟩ := List.mem_map.1 hr
        exact List.mem_map.2 ⟨t, (h t).1 ht, rfl⟩
      · intro hr
        obtain ⟨t, ht, rfl⟩ := List.mem_map.1 hr
        exact List.mem_map.2 ⟨t, (h t).2 ht, rfl⟩
  have := congrArg (List.map Prod.fst) e
  simpa [Function.comp_def] using this
theorem tm_at {l : List (Int × Int)} {i : Nat} (h : i < l.length) : l[i] = (tA l i, tB l i) := by simp [tA, tB, h]
theorem comp_srt {l : List (Int × Int)} (hs : l.Pairwise fun p q => ltT q p = false) : (compTo l l.length).Pairwise fun p q => ltT p q = true := by
  have hg : ∀ i j, i < j → j < l.length → ¬ (tA l j < tA l i ∨ (tA l j = tA l i ∧ tB l j < tB l i)) := by
    intro i j hij hj
    have h1 := List.pairwise_iff_getElem.1 hs i j (by omega) hj hij
    rw [tm_at (show i < l.length by omega), tm_at hj] at h1
    intro hn
    rw [ltT_iff.2 hn] at h1; cases h1
  unfold compTo
  rw [List.pairwise_map]
  have h0 : ((List.range l.length).filter (kp l)).Pairwise (fun a b => a < b ∧ b < l.length ∧ kp l b = true) := by
    rw [List.pairwise_filter]
    have h1 : (List.range l.length).Pairwise (fun a b => a < b) := List.pairwise_lt_range
    rw [List.pairwise_iff_getElem] at h1 ⊢
    intro i j hi hj hij _ hk
    refine ⟨h1 i j hi hj hij, ?_, hk⟩
    simpa using hj
  refine h0.imp ?_
  rintro a b ⟨hab, hb, hk⟩
  refine ltT_iff.2 ?_
  have h1 := hg a b hab hb
  have h2 : ¬ (tA l b = tA l (b - 1) ∧ tB l b = tB l (b - 1)) := by
    simp only [kp, decide_eq_true_eq] at hk
    rcases hk with e | e
    · omega
    · exact e
  have h3 := hg (b - 1) b (by omega) hb
  have h4 : a = b - 1 ∨ ¬ (tA l (b - 1) < tA l a ∨ (tA l (b - 1) = tA l a ∧ tB l (b - 1) < tB l a)) := by
    by_cases e : a = b - 1
    · exact .inl e
    · exact .inr (hg a (b - 1) (by omega) (by omega))
  rcases h4 with e | h4
  · rw [← e] at h2; omega
  · omega
theorem comp_has (l : List (Int × Int)) : ∀ m i, i < m → (tA l i, tB l i) ∈ compTo l m
  | 0, i, h => by omega
  | m + 1, i, h => by
    rw [comp_succ]
    by_cases e : i < m
    · exact List.mem_append_left _ (comp_has l m i e)
    · obtain rfl : i = m := by omega
      by_cases hk : kp l i = true
      · rw [if_pos hk]; exact List.mem_append_right _ (by simp)
      · have h2 : ¬ (i = 0 ∨ ¬ (tA l i = tA l (i - 1) ∧ tB l i = tB l (i - 1))) := fun h => hk (by unfold kp; exact decide_eq_true h)
        have h3 : i ≠ 0 := fun h => h2 (.inl h)
        have h4 : tA l i = tA l (i - 1) ∧ tB l i = tB l (i - 1) := Classical.byContradiction fun h => h2 (.inr h)
        rw [h4.1, h4.2]
        exact List.mem_append_left _ (comp_has l i (i - 1) (by omega))
theorem comp_mem (l : List (Int × Int)) (t : Int × Int) : t ∈ compTo l l.length ↔ t ∈ l := by
  constructor
  · intro h
    unfold compTo at h
    obtain ⟨j, hj, rfl⟩ := List.mem_map.1 h
    have hj' : j < l.length := by simpa using (List.mem_filter.1 hj).1
    have := List.getElem_mem hj'
    rwa [tm_at hj'] at this
  · intro h
    obtain ⟨j, hj, rfl⟩ := List.getElem_of_mem h
    rw [tm_at hj]
    exact comp_has l _ j hj
theorem comp_times {l : List Rw} {m : List (Int × Int)} (h : rokB l = true) (hp : m.Perm (l.map fun r => r.1.2)) (hs : m.Pairwise fun p q => ltT q p = false) : compTo m m.length = timesL l := by
  rw [times_yes h]
  refine order_ext (comp_srt hs) (times_srt l 64) fun t => ?_
  rw [comp_mem, times_mem h, hp.mem_iff, List.mem_map]
end Go.Proofs.Ytjkojbafifbdgaa

/-! BatchTimes of the program: the contract. -/
namespace Go.Proofs.Ytjkojbafifbdgaa
open Go.RowKit

theorem at_snoc {l : List Rw} {k : Nat} {r : Rw} (h : l[k]? = some r) : (l.take (k + 1)).map (fun r => r.1.2) = (l.take k).map (fun r => r.1.2) ++ [r.1.2] := by
  rw [take_snoc h, List.map_append]; rfl
end Go.Proofs.Ytjkojbafifbdgaa

/-! BatchTimes of the model: the contract. -/
namespace Go.Proofs.Ytjkojbafifbdgaa
open Go.RowKit

theorem gT_at {k j : Nat} (h : j < 8) : gT (8 * k + j) = ((k : Int), (j : Int)) := by
  unfold gT
  rw [show (8 * k + j) / 8 = k by omega, show (8 * k + j) % 8 = j by omega]
theorem timesTo_no {l : List Rw} {k j : Nat} (hj : j < 8) (h : ∀ (i : Nat) (r : Rw), l[i]? = some r → r.1.2 ≠ ((k : Int), (j : Int))) : timesTo l (8 * k + (j + 1)) = timesTo l (8 * k + j) := by
  rw [← Nat.add_assoc, timesTo_succ, gT_at hj]
  have : hasT l ((k : Int), (j : Int)) = false := by
    rw [← Bool.not_eq_true, has_iff]
    rintro ⟨r, hr, e⟩
    obtain ⟨i, hi, rfl⟩ := List.getElem_of_mem hr
    exact h i _ (List.getElem?_eq_getElem hi) e
  rw [this]; simp
theorem timesTo_yes {l : List Rw} {k j i : Nat} {r : Rw} (hj : j < 8) (h : l[i]? = some r) (e : r.1.2 = ((k : Int), (j : Int))) : timesTo l (8 * k + (j + 1)) = timesTo l (8 * k + j) ++ [((k : Int), (j : Int))] := by
  rw [← Nat.add_assoc, timesTo_succ, gT_at hj, if_pos (has_iff.2 ⟨r, List.mem_of_getElem? h, e⟩)]
theorem own_empT (w : World) {B : Nat} (hB : B = w.heap.size) : Own (w.alloc (.cells #[] 35)) B (.slice (some ⟨B, 0, none⟩) 0 0) [] := by
  subst hB; exact own_empty w _ 2
end Go.Proofs.Ytjkojbafifbdgaa
