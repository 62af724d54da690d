import Derived.Test.YtldejkhemkjcgaaGreatDoorGpm
import Derived.Test.YtldejkhemkjcgaaGreatDoorGk2
import Derived.Test.YtldejkhemkjcgaaGreatDoorDp1
namespace Go.Proofs.YtldejkhemkjcgaaGreatDoor
open Go.RowKit
def lateR (x y : Int) (l : List Rw) : List Rw := l.map fun r => ((r.1.1, (jnA r.1.2.1 r.1.2.2 x y, jnB r.1.2.1 r.1.2.2 x y)), r.2)
theorem late_len (x y : Int) (l : List Rw) : (lateR x y l).length = l.length := by simp [lateR]
theorem late_snoc {x y : Int} {l : List Rw} {k : Nat} {K V A B D : Int} (h : l[k]? = some (((K, V), (A, B)), D)) : lateR x y (l.take (k + 1)) = lateR x y (l.take k) ++ [(((K, V), (jnA A B x y, jnB A B x y)), D)] := by
  unfold lateR; rw [take_snoc h, List.map_append]; rfl
theorem late_rok {x y : Int} {l : List Rw} (h : rokB l = true) (hx : okB x y = true) : rokB (lateR x y l) = true := by
  refine rok_mk (by rw [late_len]; exact rok_len h) fun r hr => ?_
  obtain ⟨q, hq, rfl⟩ := List.mem_map.1 hr
  have h1 := rok_at h hq
  have h2 := rw_time h1
  have h3 := jn_ok h2 hx
  simp only [rwOkB, Bool.and_eq_true] at h1 ⊢
  exact ⟨⟨h1.1.1, h3⟩, h1.2⟩
theorem late_abs (x y : Int) (l : List Rw) : absum (lateR x y l) = absum l := by
  unfold lateR
  induction l with
  | nil => rfl
  | cons r l ih => simp only [List.map_cons, absum, ih]
theorem late_at {x y X Y : Int} {l : List Rw} (h : rokB l = true) (hx : okB x y = true) (hn : leB x y X Y = false) : atL (lateR x y l) X Y = [] := by
  unfold atL
  rw [List.map_eq_nil_iff, List.filter_eq_nil_iff]
  intro r hr
  obtain ⟨q, hq, rfl⟩ := List.mem_map.1 hr
  simp only
  rw [jn_le (rw_time (rok_at h hq)) hx, hn]; simp
theorem late_items {x y X Y : Int} {l : List Rw} (h : rokB l = true) (hx : okB x y = true) (hn : leB x y X Y = false) : itemsL (lateR x y l) X Y = [] := by
  unfold itemsL
  split
  · rw [late_at h hx hn]; rfl
  · rfl
theorem flow_ahead {t : PT} {a b l : List Rw} {r r2 : List Rw} {x y : Int} (h : flowR t [a, b] = some r) (h2 : flowR t [bothB a (lateR x y l), b] = some r2) (ha : fewR a) (hl : drR l) (hk : rokB l = true) (hx : okB x y = true) {X Y : Int} (hX : okB X Y = true) (hn : leB x y X Y = false) : itemsL r X Y = itemsL r2 X Y := by
  obtain ⟨a1, b1, e1, hp, ha1, hb1, hr⟩ := flowR_some h
  obtain ⟨a2, b2, e2, _, ha2, hb2, hr2⟩ := flowR_some h2
  simp only [List.cons.injEq, and_true] at e1 e2
  obtain ⟨rfl, rfl⟩ := e1
  obtain ⟨rfl, rfl⟩ := e2
  refine plan_same ha1 hb1 ha2 hb1 hp hr hr2 hX hX ?_ rfl
  have w1 := ha.2 (bok_rok ha1)
  have w2 := hl.abs hk
  have l1 := ha.1
  have l2 := hl.1
  rw [both_items (bok_rok ha1) (late_rok hk hx) (by rw [late_len]; omega) (by rw [late_abs]; omega) hX, late_items hk hx hn, bothS_nil (items_sokF _ _ _)]
end Go.Proofs.YtldejkhemkjcgaaGreatDoor
