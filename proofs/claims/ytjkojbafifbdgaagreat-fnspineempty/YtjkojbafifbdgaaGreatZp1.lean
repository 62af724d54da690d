/- Two batches taken together, step by step: plain facts. -/
import Derived.Test.YtjkojbafifbdgaaGreatZp0
namespace Go.Proofs.YtjkojbafifbdgaaGreat
open Go.RowKit

/-- How far two batches have been taken, and what came of it. -/
structure MgI (a b : List Rw) (i j : Nat) (L : List Rw) : Prop where
  srt : Srt ltS L
  nz : Nz L
  tt : ∀ s, tot L s = tot (a.take i ++ b.take j) s
  lowA : ∀ r ∈ L, ∀ q ∈ a.drop i, ltS r.1 q.1 = true
  lowB : ∀ r ∈ L, ∀ q ∈ b.drop j, ltS r.1 q.1 = true
  len : L.length ≤ i + j
theorem MgI.start (a b : List Rw) : MgI a b 0 0 [] := ⟨List.Pairwise.nil, fun r hr => by simp at hr, fun s => rfl, fun r hr => by simp at hr, fun r hr => by simp at hr, by simp⟩
theorem srt_snoc {L : List Rw} {x : Rw} (h : Srt ltS L) (hx : ∀ r ∈ L, ltS r.1 x.1 = true) : Srt ltS (L ++ [x]) := by
  unfold Srt
  rw [List.pairwise_append]
  exact ⟨h, List.pairwise_singleton _ _, fun r hr q hq => by rw [List.mem_singleton.1 hq]; exact hx r hr⟩
theorem srt_drop {l : List Rw} {i : Nat} {x : Rw} (h : Srt ltS l) (hx : l[i]? = some x) : ∀ q ∈ l.drop (i + 1), ltS x.1 q.1 = true := by
  have h1 : Srt ltS (l.drop i) := h.sublist (List.drop_sublist _ _)
  rw [drop_cons hx] at h1
  exact fun q hq => (List.pairwise_cons.1 h1).1 q hq
theorem mem_drop_step {l : List Rw} {i : Nat} {q : Rw} (h : q ∈ l.drop (i + 1)) : q ∈ l.drop i := by
  rw [← List.drop_drop] at h
  exact List.mem_of_mem_drop h
theorem mem_drop_at {l : List Rw} {i : Nat} {x : Rw} (hx : l[i]? = some x) : x ∈ l.drop i := by rw [drop_cons hx]; simp
theorem MgI.left {a b : List Rw} {i j : Nat} {L : List Rw} {x : Rw} (h : MgI a b i j L) (ha : bokB a = true) (hx : a[i]? = some x) (hl : ∀ q ∈ b.drop j, ltS x.1 q.1 = true) : MgI a b (i + 1) j (L ++ [x]) := by
  have hxm := List.mem_of_getElem? hx
  refine ⟨srt_snoc h.srt fun r hr => h.lowA r hr x (mem_drop_at hx), fun r hr => ?_, fun s => ?_, fun r hr q hq => ?_, fun r hr q hq => ?_, ?_⟩
  · rcases List.mem_append.1 hr with hr | hr
    · exact h.nz r hr
    · rw [List.mem_singleton.1 hr]; exact bok_nz ha x hxm
  · rw [tot_snoc, h.tt, take_snoc hx, tot_append, tot_append, tot_snoc]; omega
  · rcases List.mem_append.1 hr with hr | hr
    · exact h.lowA r hr q (mem_drop_step hq)
    · rw [List.mem_singleton.1 hr]; exact srt_drop (bok_srt ha) hx q hq
  · rcases List.mem_append.1 hr with hr | hr
    · exact h.lowB r hr q hq
    · rw [List.mem_singleton.1 hr]; exact hl q hq
  · have := h.len; rw [List.length_append]; simp only [List.length_cons, List.length_nil]; omega
theorem MgI.right {a b : List Rw} {i j : Nat} {L : List Rw} {x : Rw} (h : MgI a b i j L) (hb : bokB b = true) (hx : b[j]? = some x) (hl : ∀ q ∈ a.drop i, ltS x.1 q.1 = true) : MgI a b i (j + 1) (L ++ [x]) := by
  have hxm := List.mem_of_getElem? hx
  refine ⟨srt_snoc h.srt fun r hr => h.lowB r hr x (mem_drop_at hx), fun r hr => ?_, fun s => ?_, fun r hr q hq => ?_, fun r hr q hq => ?_, ?_⟩
  · rcases List.mem_append.1 hr with hr | hr
    · exact h.nz r hr
    · rw [List.mem_singleton.1 hr]; exact bok_nz hb x hxm
  · rw [tot_snoc, h.tt, take_snoc hx, tot_append, tot_append, tot_snoc]; omega
  · rcases List.mem_append.1 hr with hr | hr
    · exact h.lowA r hr q hq
    · rw [List.mem_singleton.1 hr]; exact hl q hq
  · rcases List.mem_append.1 hr with hr | hr
    · exact h.lowB r hr q (mem_drop_step hq)
    · rw [List.mem_singleton.1 hr]; exact srt_drop (bok_srt hb) hx q hq
  · have := h.len; rw [List.length_append]; simp only [List.length_cons, List.length_nil]; omega
theorem MgI.both {a b : List Rw} {i j : Nat} {L : List Rw} {s : Sp} {d e : Int} (h : MgI a b i j L) (ha : bokB a = true) (hb : bokB b = true) (hx : a[i]? = some (s, d)) (hy : b[j]? = some (s, e)) :
    MgI a b (i + 1) (j + 1) (if d + e = 0 then L else L ++ [(s, d + e)]) := by
  have t1 : ∀ z, tot (a.take (i + 1) ++ b.take (j + 1)) z = tot L z + (if s = z then d + e else 0) := fun z => by
    rw [take_snoc hx, take_snoc hy, tot_append, tot_snoc, tot_snoc, h.tt, tot_append]
    by_cases hz : s = z
    · simp only [hz, if_true]; omega
    · simp only [hz, if_false]; omega
  have k1 := srt_drop (bok_srt ha) hx
  have k2 := srt_drop (bok_srt hb) hy
  have hl := h.len
  split
  · rename_i h0
    exact ⟨h.srt, h.nz, fun z => by rw [t1, h0]; simp, fun r hr q hq => h.lowA r hr q (mem_drop_step hq), fun r hr q hq => h.lowB r hr q (mem_drop_step hq), by omega⟩
  · rename_i h0
    refine ⟨srt_snoc h.srt fun r hr => h.lowA r hr (s, d) (mem_drop_at hx), fun r hr => ?_, fun z => by rw [t1, tot_snoc], fun r hr q hq => ?_, fun r hr q hq => ?_, ?_⟩
    · rcases List.mem_append.1 hr with hr | hr
      · exact h.nz r hr
      · rw [List.mem_singleton.1 hr]; exact h0
    · rcases List.mem_append.1 hr with hr | hr
      · exact h.lowA r hr q (mem_drop_step hq)
      · rw [List.mem_singleton.1 hr]; exact k1 q hq
    · rcases List.mem_append.1 hr with hr | hr
      · exact h.lowB r hr q (mem_drop_step hq)
      · rw [List.mem_singleton.1 hr]; exact k2 q hq
    · rw [List.length_append]; simp only [List.length_cons, List.length_nil]; omega
theorem MgI.fin {a b : List Rw} {L : List Rw} (h : MgI a b a.length b.length L) : L = sumL ltS (a ++ b) :=
  sumL_uniq ltS_ord h.srt h.nz fun s => by rw [h.tt, List.take_length, List.take_length]
theorem low_drop {l : List Rw} {j : Nat} {x y : Rw} (h : bokB l = true) (hy : l[j]? = some y) (hl : ltS x.1 y.1 = true) : ∀ q ∈ l.drop j, ltS x.1 q.1 = true := fun q hq => by
  rw [drop_cons hy] at hq
  rcases List.mem_cons.1 hq with rfl | hq
  · exact hl
  · exact ltS_ord.trans _ _ _ hl (srt_drop (bok_srt h) hy q hq)
theorem none_drop {l : List Rw} {j : Nat} (h : l.length ≤ j) {x : Rw} : ∀ q ∈ l.drop j, ltS x.1 q.1 = true := fun q hq => by
  rw [List.drop_eq_nil_of_le h] at hq; simp at hq
end Go.Proofs.YtjkojbafifbdgaaGreat
