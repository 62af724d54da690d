import Derived.Test.YtldejkhemkjcgaaGreatDoorGtX
import Derived.Test.YtldejkhemkjcgaaGreatDoorGd4
import Derived.Test.YtldejkhemkjcgaaGreatDoorGd3
import Derived.Test.YtldejkhemkjcgaaGreatDoorGt7
namespace Go.Proofs.YtldejkhemkjcgaaGreatDoor
open Go.RowKit
theorem at_k {l : List Rw} (h : rokB l = true) (X Y : Int) : ∀ r ∈ atL l X Y, itK r.1 := fun r hr => by
  unfold atL at hr
  obtain ⟨q, hq, rfl⟩ := List.mem_map.1 hr
  have := rok_at h (List.mem_filter.1 hq).1
  simp only [rwOkB, inB, Bool.and_eq_true, decide_eq_true_eq] at this
  exact ⟨by simp only; omega, by simp only; omega, by simp only; omega, by simp only; omega⟩
theorem items_sok {l : List Rw} (h : rokB l = true) {X Y : Int} (hX : okB X Y = true) : sokB (itemsL l X Y) = true := by
  rw [items_yes h hX]
  exact sum_sok (Nat.le_trans (atL_len l X Y) (rok_len h)) (at_k h X Y) (by have := atL_abs (l := l) (x := X) (y := Y); have := rok_abs h; omega)
theorem both_items {a b : List Rw} (ha : rokB a = true) (hb : rokB b = true) (hl : a.length + b.length ≤ 400) (hs : absum a + absum b ≤ 99999) {X Y : Int} (hX : okB X Y = true) : itemsL (bothB a b) X Y = bothS (itemsL a X Y) (itemsL b X Y) := by
  rw [bothS_yes (items_sok ha hX) (items_sok hb hX), items_yes (bothB_rok a b) hX, items_yes ha hX, items_yes hb hX]
  refine sumL_congr ltT_ord fun th => ?_
  rw [at_tot, bothB_sum ha hb hl hs, sumL_wsum ltS_ord, wsum_append, tot_append, sumL_tot ltT_ord, sumL_tot ltT_ord, at_tot, at_tot]
end Go.Proofs.YtldejkhemkjcgaaGreatDoor
namespace Go.Proofs.YtldejkhemkjcgaaGreatDoor
open Go.RowKit
end Go.Proofs.YtldejkhemkjcgaaGreatDoor
