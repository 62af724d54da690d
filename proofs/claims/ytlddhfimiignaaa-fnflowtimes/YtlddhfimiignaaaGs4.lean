/- Clone of rows; rows written over one by one; BatchLess of the program and of its model: contracts. -/
import Derived.Test.YtlddhfimiignaaaGs3
import Derived.Deep.Cut
/-! Clone of rows; rows written over one by one; BatchLess of the program and of its model: contracts. -/
namespace Go.Proofs.Ytlddhfimiignaaa
open Go.RowKit

theorem nil_eql (a : Option Addr) (n c : Nat) (w : World) : (binOp .eql 35 (.slice a n c) (.slice none 0 0)).run Try.prog w = .ok (.bool a.isNone) w := by
  simp [binOp, run_equal_slice_nil w 35 55 a n c Try.underlying35]
/-- A list of which the first k are written over. -/
def mixL (f : Rw → Rw) (l : List Rw) (k : Nat) : List Rw := (l.take k).map f ++ l.drop k
theorem mix_len (f : Rw → Rw) (l : List Rw) (k : Nat) : (mixL f l k).length = l.length := by simp [mixL]; omega
theorem mix_zero (f : Rw → Rw) (l : List Rw) : mixL f l 0 = l := by simp [mixL]
theorem mix_all (f : Rw → Rw) (l : List Rw) : mixL f l l.length = l.map f := by simp [mixL]
theorem mix_at (f : Rw → Rw) {l : List Rw} {k : Nat} {x : Rw} (h : l[k]? = some x) : (mixL f l k)[k]? = some x := by
  have hk := (List.getElem?_eq_some_iff.1 h).1
  unfold mixL
  rw [List.getElem?_append_right (by simp; omega)]
  simp
  have : min k l.length = k := by omega
  rw [this]; simpa using h
theorem mix_set (f : Rw → Rw) {l : List Rw} {k : Nat} {x : Rw} (h : l[k]? = some x) : (mixL f l k).set k (f x) = mixL f l (k + 1) := by
  have hk := (List.getElem?_eq_some_iff.1 h).1
  unfold mixL
  rw [take_snoc h, drop_cons h, List.map_append, List.append_assoc]
  rw [List.set_append_right _ _ (by simp; omega)]
  have : k - ((l.take k).map f).length = 0 := by simp; omega
  rw [this]; simp
theorem FillK.diff {c : Array Value} {L : List Rw} {n i : Nat} {s : Sp} {d : Int} (h : FillK rowC 5 c L n) (hi : L[i]? = some (s, d)) (hin : i < n) (hs : i * 5 + 4 < c.size) (d' : Int) :
    FillK rowC 5 (c.setIfInBounds (i * 5 + 4) (.int .i64 d')) (L.set i (s, d')) n := by
  intro j x hj hx q hq
  have hil := (List.getElem?_eq_some_iff.1 hi).1
  rw [List.getElem?_set] at hx
  rw [Array.getElem?_setIfInBounds]
  by_cases e : i = j
  · subst e
    rw [if_pos rfl, if_pos hil] at hx
    cases hx
    obtain rfl | hq4 : q = 4 ∨ q < 4 := by omega
    · rw [if_pos rfl, if_pos hs]; rfl
    · rw [if_neg (by omega), h i _ hin hi q hq]
      obtain rfl | rfl | rfl | rfl : q = 0 ∨ q = 1 ∨ q = 2 ∨ q = 3 := by omega
      all_goals rfl
  · rw [if_neg e] at hx
    rw [if_neg (by omega)]
    exact h j x hj hx q hq
def negR (r : Rw) : Rw := (r.1, -r.2)
theorem negL_map (l : List Rw) : negL l = l.map negR := rfl
theorem less_no {l : List Rw} (h : rokB l = false) : lessL l = [] := by simp [lessL, h]
theorem less_yes {l : List Rw} (h : rokB l = true) : lessL l = sumF (negL l) := by simp [lessL, h]
theorem less_len (l : List Rw) : (lessL l).length ≤ 400 := by
  unfold lessL; split
  · exact sumF_len4 _
  · simp
theorem neg_abs (l : List Rw) : absum (negL l) = absum l := by
  unfold negL
  induction l with
  | nil => rfl
  | cons r l ih => simp only [List.map_cons, absum, ih]; omega
theorem neg_sp {l : List Rw} (h : rokB l = true) : ∀ r ∈ negL l, spOk r.1 := fun r hr => by
  obtain ⟨q, hq, rfl⟩ := List.mem_map.1 hr
  have : spOk q.1 := rw_sp (rok_at h hq)
  exact this
end Go.Proofs.Ytlddhfimiignaaa

/-! What BatchLess of the model answers: the contract. -/
namespace Go.Proofs.Ytlddhfimiignaaa
open Go.RowKit

theorem neg_snoc {l : List Rw} {k : Nat} {s : Sp} {d : Int} (h : l[k]? = some (s, d)) : negL (l.take (k + 1)) = negL (l.take k) ++ [(s, -d)] := by
  unfold negL; rw [take_snoc h, List.map_append]; rfl
theorem sumF_nil : sumF [] = [] := by unfold sumF sumL sumA; exact fit_eq bok_nil
end Go.Proofs.Ytlddhfimiignaaa
