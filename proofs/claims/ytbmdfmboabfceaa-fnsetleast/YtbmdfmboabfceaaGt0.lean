/- The clearing out of items of one Key, one behind the other: plain facts. -/
import Derived.Test.YtbmdfmboabfceaaGt1
import Derived.Test.YtbmdfmboabfceaaGs1
import Derived.Test.YtbmdfmboabfceaaGb1
namespace Go.Proofs.Ytbmdfmboabfceaa
open Go.RowKit

def gI (l : List It) (j : Nat) : It := (l[j]?).getD ((0, 0), 0)
/-- The item at j stays: it is the first, or of another Key than that before it. -/
def kpI (l : List It) (j : Nat) : Bool := decide (j = 0 ∨ ¬ (gI l j).1.1 = (gI l (j - 1)).1.1)
def cpI (l : List It) (m : Nat) : List It := ((List.range m).filter (kpI l)).map (gI l)
theorem gI_at {l : List It} {j : Nat} (h : j < l.length) : l[j]? = some (gI l j) := by
  unfold gI; rw [List.getElem?_eq_getElem h]; rfl
theorem cpI_succ (l : List It) (m : Nat) : cpI l (m + 1) = cpI l m ++ (if kpI l m then [gI l m] else []) := by
  unfold cpI
  rw [List.range_succ, List.filter_append, List.map_append]
  congr 1
  by_cases h : kpI l m <;> simp [h]
theorem rangeI (l : List It) (m : Nat) (hm : m ≤ l.length) : (List.range m).map (gI l) = l.take m := by
  apply List.ext_getElem?
  intro i
  by_cases hi : i < m
  · rw [List.getElem?_take, if_pos hi, gI_at (show i < l.length by omega)]
    simp [hi]
  · rw [List.getElem?_take, if_neg hi, List.getElem?_eq_none (by simp; omega)]
theorem cpI_all {l : List It} {m : Nat} (hm : m ≤ l.length) (h : ∀ j, j < m → kpI l j = true) : cpI l m = l.take m := by
  unfold cpI
  rw [List.filter_eq_self.2 (fun j hj => h j (List.mem_range.1 hj)), rangeI l m hm]
theorem cpI_sub (l : List It) : (cpI l l.length).Sublist l := by
  have h : (cpI l l.length).Sublist ((List.range l.length).map (gI l)) := List.Sublist.map _ List.filter_sublist
  rw [rangeI l _ (Nat.le_refl _), List.take_length] at h
  exact h
theorem kpI_no {l : List It} {m : Nat} (hm : 0 < m) (h1 : (gI l m).1.1 = (gI l (m - 1)).1.1) : kpI l m = false := by
  have : m ≠ 0 := by omega
  simp [kpI, h1, this]
theorem kpI_one {l : List It} {j : Nat} (h : j < 1) : kpI l j = true := by
  have : j = 0 := by omega
  simp [kpI, this]
theorem kpI_yes {l : List It} {m : Nat} (h : ¬ (gI l m).1.1 = (gI l (m - 1)).1.1) : kpI l m = true := by
  unfold kpI; exact decide_eq_true (.inr h)
theorem cpI_mem (l : List It) (r : It) : r ∈ cpI l l.length ↔ ∃ j, j < l.length ∧ kpI l j = true ∧ l[j]? = some r := by
  unfold cpI
  rw [List.mem_map]
  constructor
  · rintro ⟨j, hj, rfl⟩
    obtain ⟨h1, h2⟩ := List.mem_filter.1 hj
    have := List.mem_range.1 h1
    exact ⟨j, this, h2, gI_at this⟩
  · rintro ⟨j, h1, h2, h3⟩
    refine ⟨j, List.mem_filter.2 ⟨List.mem_range.2 h1, h2⟩, ?_⟩
    rw [gI_at h1] at h3; exact Option.some.inj h3
theorem srt_get {l : List It} (h : Srt ltT l) {i j : Nat} {a b : It} (hij : i < j) (ha : l[i]? = some a) (hb : l[j]? = some b) : ltT a.1 b.1 = true := by
  obtain ⟨hi, e1⟩ := List.getElem?_eq_some_iff.1 ha
  obtain ⟨hj, e2⟩ := List.getElem?_eq_some_iff.1 hb
  have := (List.pairwise_iff_getElem.1 h) i j hi hj hij
  rw [e1, e2] at this; exact this
/-- Of items in order, those that stay are the least of each Key. -/
theorem cp_least {l : List It} (h : sokB l = true) : cpI (onceT l) (onceT l).length = leastS l := by
  have hs := once_srt (sok_srt h)
  refine least_of h (hs.sublist (cpI_sub _)) fun r => ?_
  rw [cpI_mem]
  generalize onceT l = o at *
  constructor
  · rintro ⟨j, hj, hk, hr⟩
    refine ⟨List.mem_of_getElem? hr, fun q hq e => ?_⟩
    obtain ⟨i, hi, e1⟩ := List.getElem_of_mem hq
    have hqi : o[i]? = some q := by rw [List.getElem?_eq_getElem hi, e1]
    by_cases hij : i < j
    · exfalso
      have hj0 : j ≠ 0 := by omega
      simp only [kpI, decide_eq_true_eq] at hk
      have hne := hk.resolve_left hj0
      have hp := gI_at (l := o) (j := j - 1) (by omega)
      have hgr : gI o j = r := by rw [gI_at hj] at hr; exact Option.some.inj hr
      have h1 := srt_get hs (show j - 1 < j by omega) hp hr
      rw [hgr] at hne
      by_cases h0 : i = j - 1
      · subst h0; rw [hqi] at hp; rw [← Option.some.inj hp] at hne; exact hne e.symm
      · have h2 := srt_get hs (show i < j - 1 by omega) hqi hp
        simp [ltT] at h1 h2
        omega
    · by_cases h0 : i = j
      · subst h0; rw [hr] at hqi; cases hqi; exact ltT_ord.irr _
      · have h1 := srt_get hs (show j < i by omega) hr hqi
        cases h2 : ltT q.1 r.1
        · rfl
        · have := ltT_ord.trans _ _ _ h1 h2; rw [ltT_ord.irr] at this; cases this
  · rintro ⟨hr, hall⟩
    obtain ⟨j, hj, e1⟩ := List.getElem_of_mem hr
    have hrj : o[j]? = some r := by rw [List.getElem?_eq_getElem hj, e1]
    refine ⟨j, hj, ?_, hrj⟩
    by_cases h0 : j = 0
    · exact kpI_one (by omega)
    · refine kpI_yes fun e => ?_
      have hp := gI_at (l := o) (j := j - 1) (by omega)
      have hgr : gI o j = r := by rw [gI_at hj] at hrj; exact Option.some.inj hrj
      rw [hgr] at e
      have h1 := srt_get hs (show j - 1 < j by omega) hp hrj
      have h2 := hall _ (List.mem_of_getElem? hp) e.symm
      rw [h2] at h1; cases h1
/-- How far it has come: i are kept of the first j. -/
structure CpI (l : List It) (i j : Nat) (c : Array Value) : Prop where
  lt : i < j
  le : j ≤ l.length
  len : (cpI l j).length = i
  low : FillK itC 3 c (cpI l j) i
  high : ∀ m, i ≤ m → m < l.length → ∀ q, q < 3 → c[m * 3 + q]? = (itC (gI l m))[q]?
theorem CpI.start {l : List It} {k : Nat} {c : Array Value} (hk : k < l.length) (hno : kpI l k = false) (hyes : ∀ i, i < k → kpI l i = true) (hf : FillK itC 3 c l l.length) : CpI l k (k + 1) c := by
  have e : cpI l (k + 1) = l.take k := by
    rw [cpI_succ, hno, cpI_all (by omega) hyes]; simp
  refine ⟨by omega, hk, by rw [e, List.length_take]; omega, fun i x hi hx => ?_, fun m _ hm q hq => hf m _ hm (gI_at hm) q hq⟩
  rw [e, List.getElem?_take, if_pos hi] at hx
  exact hf i x (by omega) hx
theorem CpI.skip {l : List It} {i j : Nat} {c : Array Value} (h : CpI l i j c) (hj : j < l.length) (hy : kpI l j = false) : CpI l i (j + 1) c := by
  have e : cpI l (j + 1) = cpI l j := by rw [cpI_succ, hy]; simp
  exact ⟨by have := h.lt; omega, hj, by rw [e]; exact h.len, by rw [e]; exact h.low, h.high⟩
theorem CpI.keep {l : List It} {i j : Nat} {c : Array Value} {K V D : Int} (h : CpI l i j c) (hj : j < l.length) (hs : l.length * 3 ≤ c.size) (hy : kpI l j = true) (hg : gI l j = ((K, V), D)) :
    CpI l (i + 1) (j + 1) (((c.setIfInBounds (i * 3) (.int .i64 K)).setIfInBounds (i * 3 + 1) (.int .i64 V)).setIfInBounds (i * 3 + 2) (.int .i64 D)) := by
  have hlt := h.lt
  have hlen := h.len
  have e : cpI l (j + 1) = cpI l j ++ [((K, V), D)] := by rw [cpI_succ, hy, hg]; rfl
  refine ⟨by omega, hj, by rw [e, List.length_append]; simp [hlen], fun a x ha hx q hq => ?_, fun m a b q hq => ?_⟩
  · rw [e] at hx
    by_cases hai : a < i
    · rw [List.getElem?_append_left (by omega)] at hx
      rw [Array.getElem?_setIfInBounds, if_neg (by omega), Array.getElem?_setIfInBounds, if_neg (by omega), Array.getElem?_setIfInBounds, if_neg (by omega)]
      exact h.low a x hai hx q hq
    · obtain rfl : a = i := by omega
      rw [List.getElem?_append_right (by omega)] at hx
      simp [hlen] at hx
      subst hx
      obtain rfl | rfl | rfl : q = 0 ∨ q = 1 ∨ q = 2 := by omega
      · rw [Array.getElem?_setIfInBounds, if_neg (by omega), Array.getElem?_setIfInBounds, if_neg (by omega), Array.getElem?_setIfInBounds, if_pos (by omega), if_pos (by omega)]; rfl
      · rw [Array.getElem?_setIfInBounds, if_neg (by omega), Array.getElem?_setIfInBounds, if_pos (by omega), if_pos (by simp; omega)]; rfl
      · rw [Array.getElem?_setIfInBounds, if_pos (by omega), if_pos (by simp; omega)]; rfl
  · rw [Array.getElem?_setIfInBounds, if_neg (by omega), Array.getElem?_setIfInBounds, if_neg (by omega), Array.getElem?_setIfInBounds, if_neg (by omega)]
    exact h.high m (by omega) b q hq
end Go.Proofs.Ytbmdfmboabfceaa
