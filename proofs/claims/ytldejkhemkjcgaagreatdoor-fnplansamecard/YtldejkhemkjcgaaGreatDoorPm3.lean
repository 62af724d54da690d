import Derived.Test.YtldejkhemkjcgaaGreatDoorGpm
import Derived.Test.YtldejkhemkjcgaaGreatDoorGs7
import Derived.Test.YtldejkhemkjcgaaGreatDoorGlk
namespace Go.Proofs.YtldejkhemkjcgaaGreatDoor
open Go.RowKit
def allZ (l : List Rw) : Prop := ∀ r ∈ l, r.1.2 = (0, 0)
theorem allZ_sum {l : List Rw} (h : allZ l) : allZ (sumL ltS l) := fun r hr => by
  obtain ⟨q, hq, e⟩ := sumL_key hr
  rw [← e]; exact h q hq
theorem allZ_less {l : List Rw} (h : allZ l) (hb : bokB l = true) : allZ (lessL l) := fun r hr => by
  rw [lessL_of hb] at hr
  obtain ⟨q, hq, rfl⟩ := List.mem_map.1 hr
  exact h q hq
theorem allZ_op {k n : Int} {x y : List Rw} (hx : allZ x) (hy : allZ y) (hb : bokB x = true) : allZ (opR k n x y) := by
  unfold opR
  split
  · refine allZ_sum fun r hr => ?_
    obtain ⟨q, hq, rfl⟩ := List.mem_map.1 hr
    exact hx q (List.mem_filter.1 hq).1
  split
  · refine allZ_sum fun r hr => ?_
    rcases List.mem_append.1 hr with h | h
    · exact hx r h
    · exact hy r h
  split
  · exact allZ_less hx hb
  split
  · refine allZ_sum fun r hr => ?_
    obtain ⟨q, hq, h2⟩ := List.mem_flatMap.1 hr
    obtain ⟨p, hp, rfl⟩ := List.mem_map.1 h2
    have e1 := hx q hq
    have e2 := hy p (List.mem_filter.1 hp).1
    simp only [jnS, e1, e2]
    decide
  · refine allZ_sum fun r hr => ?_
    have h1 := fsumR_time hr
    rw [jtimes_mem, inJ_iff] at h1
    obtain ⟨-, p, hp, q, hq, e1, e2⟩ := h1
    have p1 := hx p (List.mem_filter.1 hp).1
    have q1 := hx q (List.mem_filter.1 hq).1
    rw [p1, q1] at e1 e2
    exact Prod.ext e1.symm e2.symm
theorem planR_zero {a b : List Rw} (ha : allZ a) (hb : allZ b) : ∀ {t : PT} {r : List Rw}, planR a b t = some r → allZ r
  | .n0 k n, r, h => by
    obtain ⟨_, rfl⟩ := fitO_some.1 h
    split
    · exact ha
    · exact hb
  | .n1 k n x, r, h => by
    obtain ⟨s, hs, h2⟩ := Option.bind_eq_some_iff.1 h
    obtain ⟨_, rfl⟩ := fitO_some.1 h2
    exact allZ_op (planR_zero ha hb hs) (fun r hr => by simp at hr) (planR_bok hs)
  | .n2 k n x y, r, h => by
    obtain ⟨s, hs, h2⟩ := Option.bind_eq_some_iff.1 h
    obtain ⟨u, hu, h3⟩ := Option.bind_eq_some_iff.1 h2
    obtain ⟨_, rfl⟩ := fitO_some.1 h3
    exact allZ_op (planR_zero ha hb hs) (planR_zero ha hb hu) (planR_bok hs)
theorem up_items {m : List It} (h : sokB m = true) (hb : bokB (m.map upR) = true) : itemsL (m.map upR) 0 0 = m := by
  rw [items_yes (bok_rok hb) (by decide)]
  have e : atL (m.map upR) 0 0 = m := at_same m (0, 0) 0 0
  rw [e]; exact sum_as h fun _ => rfl
theorem up_zero (m : List It) : allZ (m.map upR) := fun r hr => by
  obtain ⟨q, _, rfl⟩ := List.mem_map.1 hr; rfl
def lastL (l : List Rw) : List Rw := (itemsL l 7 7).map upR
theorem flow_last {t : PT} {K : List (List Rw)} {r r2 : List Rw} (h : flowR t K = some r) (h2 : flowR t (K.map lastL) = some r2) : allZ r2 ∧ itemsL r2 0 0 = itemsL r 7 7 := by
  obtain ⟨a, b, rfl, hp, ha, hb, hr⟩ := flowR_some h
  obtain ⟨a', b', e, _, ha', hb', hr'⟩ := flowR_some h2
  simp only [List.map_cons, List.map_nil, List.cons.injEq, and_true] at e
  obtain ⟨rfl, rfl⟩ := e
  exact ⟨planR_zero (up_zero _) (up_zero _) hr', plan_same ha' hb' ha hb hp hr' hr (by decide) (by decide) (up_items (items_sokF _ _ _) ha') (up_items (items_sokF _ _ _) hb')⟩
theorem last_len (l : List Rw) : (lastL l).length ≤ 400 := by
  unfold lastL; rw [List.length_map]; exact items_len l 7 7
theorem is_at {w : World} {g off n cap : Nat} {l : List It} (h : Is w (.slice (some ⟨g, off, none⟩) n cap) l) {k : Nat} {K V D : Int} (hr : l[k]? = some ((K, V), D)) :
    w.cell? ⟨g, off + k * 3, none⟩ = some (.int .i64 K) ∧ w.cell? ⟨g, off + k * 3 + 1, none⟩ = some (.int .i64 V) ∧ w.cell? ⟨g, off + k * 3 + 2, none⟩ = some (.int .i64 D) := by
  obtain ⟨a, c, e, -, -, -, h4⟩ := h
  cases e
  obtain ⟨g', off', e', -, hc⟩ := h4 k _ hr
  cases e'
  exact ⟨hc 0 (by omega), hc 1 (by omega), hc 2 (by omega)⟩
end Go.Proofs.YtldejkhemkjcgaaGreatDoor
