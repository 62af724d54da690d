/- Contracts of chapter 3 in the form in which the laws use them, and plain facts on batches and items. -/
import Derived.Test.YtjkojbafifbdgaaGtX
import Derived.Test.YtjkojbafifbdgaaGd4
import Derived.Test.YtjkojbafifbdgaaGd3
import Derived.Test.YtjkojbafifbdgaaGt7
/-! Contracts of chapter 3 in the form in which the laws use them, and plain facts on batches and items. -/
namespace Go.Proofs.Ytjkojbafifbdgaa
open Go.RowKit

theorem implSetLess_k {l L : List It} (e : lessS l = L) {v : Value} {w : World} (h : Is w v l) : Calls Try.prog 22 #[v] w fun e w' => ∃ o : Value, e = .returned o ∧ Is w' o L ∧ Below w.heap.size w w' :=
  ofOwnI e (by have := lessS_len l; omega) (implSetLess_any v l w h)
theorem implSetBoth_k {l l' L : List It} (e : bothS l l' = L) {v v' : Value} {w : World} (h : Is w v l) (h' : Is w v' l') : Calls Try.prog 17 #[v, v'] w fun e w' => ∃ o : Value, e = .returned o ∧ Is w' o L ∧ Below w.heap.size w w' :=
  ofOwnI e (by have := bothS_len l l'; omega) (implSetBoth_any v v' l l' w h h')
theorem at_k {l : List Rw} (h : rokB l = true) (X Y : Int) : ∀ r ∈ atL l X Y, itK r.1 := fun r hr => by
  unfold atL at hr
  obtain ⟨q, hq, rfl⟩ := List.mem_map.1 hr
  have := rok_at h (List.mem_filter.1 hq).1
  simp only [rwOkB, inB, Bool.and_eq_true, decide_eq_true_eq] at this
  exact ⟨by simp only; omega, by simp only; omega, by simp only; omega, by simp only; omega⟩
theorem items_sok {l : List Rw} (h : rokB l = true) {X Y : Int} (hX : okB X Y = true) : sokB (itemsL l X Y) = true := by
  rw [items_yes h hX]
  exact sum_sok (Nat.le_trans (atL_len l X Y) (rok_len h)) (at_k h X Y) (by have := atL_abs (l := l) (x := X) (y := Y); have := rok_abs h; omega)
theorem both_items {a b : List Rw} (ha : rokB a = true) (hb : rokB b = true) (hl : a.length + b.length ≤ 400) (hs : absum a + absum b ≤ 99999) {X Y : Int} (hX : okB X Y = true) : itemsL (bothB a b) X Y = bothS (itemsL a X Y) (itemsL b X Y) := by
  rw [bothS_yes (items_sok ha hX) (items_sok hb hX), items_yes (bothB_rok a b) hX, items_yes ha hX, items_yes hb hX]
  refine sumL_congr ltT_ord fun th => ?_
  rw [at_tot, bothB_sum ha hb hl hs, sumL_wsum ltS_ord, wsum_append, tot_append, sumL_tot ltT_ord, sumL_tot ltT_ord, at_tot, at_tot]
theorem bothB_bok (a b : List Rw) : bokB (bothB a b) = true := by
  unfold bothB; split
  · exact sumF_bok _
  · exact bok_nil
theorem neg_rok {l : List Rw} (h : rokB l = true) : rokB (negL l) = true := by
  refine rok_mk (by simp [negL]; exact rok_len h) fun r hr => ?_
  obtain ⟨q, hq, rfl⟩ := List.mem_map.1 hr
  have := rok_at h hq
  simp only [rwOkB, inB, okB, Bool.and_eq_true, decide_eq_true_eq] at this ⊢
  omega
theorem less_sum {l : List Rw} (h : rokB l = true) (hs : absum l ≤ 99999) : lessL l = sumL ltS (negL l) := by
  rw [less_yes h]
  have h1 := neg_rok h
  exact sumF_ok (sum_rok (rok_len h1) (fun r hr => rw_parts (rok_at h1 hr)) (by rw [neg_abs]; exact hs))
theorem less_rok (l : List Rw) : rokB (lessL l) = true := by
  unfold lessL; split
  · exact bok_rok (sumF_bok _)
  · exact rok_nil
theorem wsum_negL (g : Sp → Int) (l : List Rw) : wsum g (negL l) = - wsum g l := by
  unfold negL; exact wsum_neg g l
theorem less_items {a : List Rw} (ha : rokB a = true) (hs : absum a ≤ 99999) {X Y : Int} (hX : okB X Y = true) : itemsL (lessL a) X Y = lessS (itemsL a X Y) := by
  have h0 := items_sok ha hX
  rw [lessS_yes h0, items_yes (less_rok a) hX]
  refine sum_as (neg_sok h0) fun z => ?_
  rw [neg_totI, items_yes ha hX, sumL_tot ltT_ord, at_tot, at_tot, less_sum ha hs, sumL_wsum ltS_ord, wsum_negL]
theorem sumL_none {l : List Rw} (h : ∀ s, tot l s = 0) : sumL ltS l = [] := (sumL_uniq ltS_ord (m := []) (by simp [Srt]) (fun r hr => by simp at hr) (fun s => by rw [h]; rfl)).symm
theorem less_abs (l : List Rw) : absum (lessL l) ≤ absum l := by
  unfold lessL; split
  · rw [← neg_abs l]; exact sumF_absR _
  · exact absum_pos l
theorem less_few (l : List Rw) : (lessL l).length ≤ l.length := by
  unfold lessL; split
  · exact Nat.le_trans (sumF_len _) (by simp [negL])
  · simp
theorem tot_negL (l : List Rw) (s : Sp) : tot (negL l) s = - tot l s := tot_neg l s
theorem both_less {a : List Rw} (ha : rokB a = true) (hl : a.length ≤ 11) (hs : absum a ≤ 33) : bothB a (lessL a) = [] := by
  have h1 := less_few a
  have h2 := less_abs a
  rw [bothB_sum ha (less_rok a) (by omega) (by omega)]
  exact sumL_none fun s => by rw [tot_append, less_sum ha (by omega), sumL_tot ltS_ord, tot_negL]; omega
theorem less_less {a : List Rw} (ha : rokB a = true) (hs : absum a ≤ 33) : lessL (lessL a) = batchL a := by
  have h2 := less_abs a
  rw [batch_sum ha (by omega), less_sum (less_rok a) (by omega), less_sum ha (by omega)]
  refine sumL_congr ltS_ord fun s => ?_
  rw [tot_negL, sumL_tot ltS_ord, tot_negL]; omega
end Go.Proofs.Ytjkojbafifbdgaa

/-! Contracts of SetEach in the form in which the laws use them. -/
namespace Go.Proofs.Ytjkojbafifbdgaa
open Go.RowKit

end Go.Proofs.Ytjkojbafifbdgaa
