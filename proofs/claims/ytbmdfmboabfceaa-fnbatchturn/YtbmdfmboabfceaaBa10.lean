/- Rows and items appended to slices of a call's own; what the model's putting of a row into a batch answers. -/
import Derived.Test.YtbmdfmboabfceaaBa9
import Derived.Test.YtbmdfmboabfceaaBa4
namespace Go.Proofs.Ytbmdfmboabfceaa
open Go.RowKit

theorem newsL {w : World} {g : Nat} {c : Array Value} {t : TypeId} (h : Bk w g c t) : ∀ j u, c.toList[j]? = some u → w.cell? ((⟨g, 0, none⟩ : Addr).add j) = some u := by
  intro j u hj
  have e : (⟨g, 0, none⟩ : Addr).add j = ⟨g, j, none⟩ := by simp [Addr.add]; exact fun h => h.symm
  rw [e]
  exact h.cell (by simpa using hj)
theorem onesR (r : Rw) : ∀ u ∈ rowC r, u.oneCell' = true := by
  intro u hu; simp at hu; rcases hu with rfl | rfl | rfl | rfl | rfl <;> rfl
theorem onesI (r : It) : ∀ u ∈ itC r, u.oneCell' = true := by
  intro u hu; simp at hu; rcases hu with rfl | rfl | rfl <;> rfl
section
variable {ops : Array Oper} {rest : List Oper} {o : Oper} {a : Act} {Q : Exit → Act → World → Prop}
theorem appR (w : World) (hgd : o.guard = none) (s x : Operand) (ho : o.op = .call { callee := .builtin .append, args := #[s, x], argTypes := #[23, 23] })
    (base : Nat) (v : Value) (l : List Rw) (hs : a.eval s = v) (hown : OwnR w base v l) (g0 : Nat) (K V A B D : Int) (hx : a.eval x = .slice (some ⟨g0, 0, none⟩) 1 1)
    (hc : Bk w g0 #[.int .i64 K, .int .i64 V, .int .i64 A, .int .i64 B, .int .i64 D] 33) (hl : l.length ≤ 2000000) (hbase : base ≤ w.heap.size)
    (h : ∀ g cap w', OwnR w' base (.slice (some ⟨g, 0, none⟩) (l.length + 1) cap) (l ++ [(((K, V), (A, B)), D)]) → w.grownBy w' v.ownBlock → g < w'.heap.size → wpList Try.prog ops Q rest (a.put o.dst (.slice (some ⟨g, 0, none⟩) (l.length + 1) cap)) w') :
    wpList Try.prog ops Q (o :: rest) a w := by
  obtain ⟨i0, hi, hz0, hz1, hz2⟩ := info_parts infoR
  refine wpList_append_lies w hgd s x 23 ho base 33 i0 _ 5 40 Try.underlying23 hi hz0 hz1 hz2 rfl (by decide) v l.length (l.flatMap rowC) hs hown ⟨g0, 0, none⟩ 1 1 (rowC (((K, V), (A, B)), D)) hx rfl (newsL hc) (onesR _) (by omega) (by unfold maxLen; omega) (by omega) hbase w.heap.size rfl ?_
  intro g cap w' h1 h2 _ h4
  refine h g cap w' ?_ h2 h4
  show w'.ownsRow _ _ _ _ _ _
  rw [List.flatMap_append]; simpa using h1
theorem appI (w : World) (hgd : o.guard = none) (s x : Operand) (ho : o.op = .call { callee := .builtin .append, args := #[s, x], argTypes := #[40, 40] })
    (base : Nat) (v : Value) (l : List It) (hs : a.eval s = v) (hown : OwnI w base v l) (g0 : Nat) (K V D : Int) (hx : a.eval x = .slice (some ⟨g0, 0, none⟩) 1 1)
    (hc : Bk w g0 #[.int .i64 K, .int .i64 V, .int .i64 D] 64) (hl : l.length ≤ 2000000) (hbase : base ≤ w.heap.size)
    (h : ∀ g cap w', OwnI w' base (.slice (some ⟨g, 0, none⟩) (l.length + 1) cap) (l ++ [((K, V), D)]) → w.grownBy w' v.ownBlock → g < w'.heap.size → wpList Try.prog ops Q rest (a.put o.dst (.slice (some ⟨g, 0, none⟩) (l.length + 1) cap)) w') :
    wpList Try.prog ops Q (o :: rest) a w := by
  obtain ⟨i0, hi, hz0, hz1, hz2⟩ := info_parts infoI
  refine wpList_append_lies w hgd s x 40 ho base 64 i0 _ 3 24 Try.underlying40 hi hz0 hz1 hz2 rfl (by decide) v l.length (l.flatMap itC) hs hown ⟨g0, 0, none⟩ 1 1 (itC ((K, V), D)) hx rfl (newsL hc) (onesI _) (by omega) (by unfold maxLen; omega) (by omega) hbase w.heap.size rfl ?_
  intro g cap w' h1 h2 _ h4
  refine h g cap w' ?_ h2 h4
  show w'.ownsRow _ _ _ _ _ _
  rw [List.flatMap_append]; simpa using h1
theorem appT (w : World) (hgd : o.guard = none) (s x : Operand) (ho : o.op = .call { callee := .builtin .append, args := #[s, x], argTypes := #[37, 37] })
    (base : Nat) (v : Value) (l : List (Int × Int)) (hs : a.eval s = v) (hown : Own w base v l) (g0 : Nat) (A B : Int) (hx : a.eval x = .slice (some ⟨g0, 0, none⟩) 1 1)
    (hc : Bk w g0 #[.int .i64 A, .int .i64 B] 31) (hl : l.length ≤ 2000000) (hbase : base ≤ w.heap.size)
    (h : ∀ g cap w', Own w' base (.slice (some ⟨g, 0, none⟩) (l.length + 1) cap) (l ++ [(A, B)]) → w.grownBy w' v.ownBlock → g < w'.heap.size → wpList Try.prog ops Q rest (a.put o.dst (.slice (some ⟨g, 0, none⟩) (l.length + 1) cap)) w') :
    wpList Try.prog ops Q (o :: rest) a w := by
  obtain ⟨i0, hi, hz0, hz1, hz2⟩ := info_parts infoT
  refine wpList_append_lies w hgd s x 37 ho base 31 i0 _ 2 16 Try.underlying37 hi hz0 hz1 hz2 rfl (by decide) v l.length (cellsL l) hs hown ⟨g0, 0, none⟩ 1 1 [.int .i64 A, .int .i64 B] hx rfl (newsL hc) (ones2 _ _) (by omega) (by unfold maxLen; omega) (by omega) hbase w.heap.size rfl ?_
  intro g cap w' h1 h2 _ h4
  refine h g cap w' ?_ h2 h4
  show w'.ownsRow _ _ _ _ _ _
  rw [cellsL_snoc]; simpa using h1
end
theorem ownR_empty (w : World) {B : Nat} (hB : B = w.heap.size) : OwnR (w.alloc (.cells #[] 33)) B (.slice (some ⟨B, 0, none⟩) 0 0) [] := by
  subst hB; exact own_empty w _ 5
theorem ownI_empty (w : World) {B : Nat} (hB : B = w.heap.size) : OwnI (w.alloc (.cells #[] 64)) B (.slice (some ⟨B, 0, none⟩) 0 0) [] := by
  subst hB; exact own_empty w _ 3
theorem Below.grew {B : Nat} {w W W' : World} {row : Option Nat} (h : Below B w W) (hg : W.grownBy W' row) (hB : B ≤ W.heap.size) (hr : ∀ k, row = some k → B ≤ k) : Below B w W' := h.grown hg hB hr
theorem Bk.grew {w w' : World} {g : Nat} {c : Array Value} {t : TypeId} {row : Option Nat} (h : Bk w g c t) (hg : w.grownBy w' row) (hr : ∀ k, row = some k → g ≠ k) : Bk w' g c t := by
  unfold Bk
  rw [hg.block g h.lt (fun e => hr _ e.symm rfl)]; exact h
theorem take_snoc {α : Type} {l : List α} {k : Nat} {x : α} (h : l[k]? = some x) : l.take (k + 1) = l.take k ++ [x] := by
  rw [List.take_add_one, h]; rfl
theorem drop_cons {α : Type} {l : List α} {k : Nat} {x : α} (h : l[k]? = some x) : l.drop k = x :: l.drop (k + 1) := by
  have := (List.getElem?_eq_some_iff.1 h)
  obtain ⟨h1, h2⟩ := this
  rw [List.drop_eq_getElem_cons h1, h2]

/-- How far a row is put in: not yet, or done. -/
inductive PutAt (r : Rw) (l L : List Rw) (k : Nat) (D : Int) : Bool → Prop
  | no (h1 : L = l.take k) (h2 : putL ltS r l = l.take k ++ putL ltS r (l.drop k)) (h3 : D = r.2) : PutAt r l L k D false
  | yes (h1 : L ++ l.drop k = putL ltS r l) (h2 : L.length ≤ k + 1) : PutAt r l L k D true
theorem PutAt.start (r : Rw) (l : List Rw) : PutAt r l [] 0 r.2 false := .no (by simp) (by simp) rfl
theorem PutAt.past {r x : Rw} {l L : List Rw} {k : Nat} {D : Int} (h : PutAt r l L k D true) (hx : l[k]? = some x) : PutAt r l (L ++ [x]) (k + 1) D true := by
  cases h with
  | yes h1 h2 => exact .yes (by rw [List.append_assoc, List.singleton_append, ← drop_cons hx]; exact h1) (by simp; omega)
theorem PutAt.before {r x : Rw} {l L : List Rw} {k : Nat} {D : Int} (h : PutAt r l L k D false) (hx : l[k]? = some x) (hlt : ltS x.1 r.1 = true) : PutAt r l (L ++ [x]) (k + 1) D false := by
  cases h with
  | no h1 h2 h3 =>
    have hn : ltS r.1 x.1 = false := by
      cases e : ltS r.1 x.1
      · rfl
      · have := ltS_ord.trans _ _ _ e hlt; rw [ltS_ord.irr] at this; cases this
    refine .no (by rw [take_snoc hx, h1]) ?_ h3
    rw [h2, take_snoc hx, drop_cons hx, List.append_assoc]
    congr 1
    show putL ltS r (x :: l.drop (k + 1)) = x :: putL ltS r (l.drop (k + 1))
    simp [putL, hn, hlt]
theorem PutAt.here {r x : Rw} {l L : List Rw} {k : Nat} {D : Int} (h : PutAt r l L k D false) (hx : l[k]? = some x) (hlt : ltS r.1 x.1 = true) : PutAt r l (L ++ [r] ++ [x]) (k + 1) D true := by
  cases h with
  | no h1 h2 h3 =>
    have hk := (List.getElem?_eq_some_iff.1 hx).1
    refine .yes ?_ ?_
    · rw [h2, h1, drop_cons hx]
      simp [putL, hlt]
    · rw [h1]; simp; omega
theorem PutAt.same {r x : Rw} {l L : List Rw} {k : Nat} {D : Int} (h : PutAt r l L k D false) (hx : l[k]? = some x) (h1' : ltS r.1 x.1 = false) (h2' : ltS x.1 r.1 = false) (D' : Int) : PutAt r l (L ++ [(r.1, r.2 + x.2)]) (k + 1) D' true := by
  cases h with
  | no h1 h2 h3 =>
    have hk := (List.getElem?_eq_some_iff.1 hx).1
    refine .yes ?_ ?_
    · rw [h2, h1, drop_cons hx]
      simp [putL, h1', h2']
    · rw [h1]; simp; omega
theorem PutAt.end_no {r : Rw} {l L : List Rw} {k : Nat} {D : Int} (h : PutAt r l L k D false) (hk : l.length ≤ k) : L ++ [r] = putL ltS r l := by
  cases h with
  | no h1 h2 h3 => rw [h2, h1, List.drop_eq_nil_of_le hk]; rfl
theorem PutAt.end_yes {r : Rw} {l L : List Rw} {k : Nat} {D : Int} (h : PutAt r l L k D true) (hk : l.length ≤ k) : L = putL ltS r l := by
  cases h with
  | yes h1 h2 => rw [List.drop_eq_nil_of_le hk, List.append_nil] at h1; exact h1
theorem PutAt.len {r : Rw} {l L : List Rw} {k : Nat} {D : Int} {b : Bool} (h : PutAt r l L k D b) : L.length ≤ k + 1 := by
  cases h with
  | no h1 h2 h3 => rw [h1]; simp; omega
  | yes h1 h2 => exact h2
theorem PutAt.same_d {r : Rw} {l L : List Rw} {k : Nat} {D : Int} (h : PutAt r l L k D false) : D = r.2 := by
  cases h with
  | no h1 h2 h3 => exact h3
end Go.Proofs.Ytbmdfmboabfceaa
