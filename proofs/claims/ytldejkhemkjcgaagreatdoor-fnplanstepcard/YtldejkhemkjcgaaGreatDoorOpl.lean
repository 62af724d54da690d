import Derived.Test.YtldejkhemkjcgaaGreatDoorGpa
import Derived.Test.YtldejkhemkjcgaaGreatDoorGb3
import Derived.Test.YtldejkhemkjcgaaGreatDoorGs7
namespace Go.Proofs.YtldejkhemkjcgaaGreatDoor
open Go.RowKit Go.Shelf
abbrev plC (p : Int × Int × Value) : List Value := [.int .i64 p.1, .int .i64 p.2.1, p.2.2]
theorem plC_len (p : Int × Int × Value) : (plC p).length = 3 := rfl
abbrev OwnPl (w : World) (B : Nat) (v : Value) (l : List (Int × Int × Value)) : Prop := OwnK plC 3 25 w B v l
theorem infoPl : (Tryz.prog.info? 25).map (fun i => (i.zero, i.size, i.bytes)) = some (some (.agg #[.int .i64 0, .int .i64 0, .slice none 0 0]), 3, 40) := by kernel_rfl
theorem onesPl (k n : Int) (a : Option Addr) (i c : Nat) : ∀ u ∈ plC (k, n, .slice a i c), u.oneCell' = true := by
  intro u hu; simp at hu; rcases hu with rfl | rfl | rfl <;> rfl
section
variable {ops : Array Oper} {rest : List Oper} {o : Oper} {a : Act} {Q : Exit → Act → World → Prop}
theorem appPl (w : World) (hgd : o.guard = none) (s x : Operand) (ho : o.op = .call { callee := .builtin .append, args := #[s, x], argTypes := #[23, 23] })
    (base : Nat) (v : Value) (l : List (Int × Int × Value)) (hs : a.eval s = v) (hown : OwnPl w base v l) (g0 : Nat) (k n : Int) (ad : Option Addr) (i c : Nat) (hx : a.eval x = .slice (some ⟨g0, 0, none⟩) 1 1)
    (hc : Bk w g0 #[.int .i64 k, .int .i64 n, .slice ad i c] 25) (hl : l.length ≤ 2000000) (hbase : base ≤ w.heap.size)
    (h : ∀ g cap w', OwnPl w' base (.slice (some ⟨g, 0, none⟩) (l.length + 1) cap) (l ++ [(k, n, .slice ad i c)]) → w.grownBy w' v.ownBlock → g < w'.heap.size → wpList Tryz.prog ops Q rest (a.put o.dst (.slice (some ⟨g, 0, none⟩) (l.length + 1) cap)) w') :
    wpList Tryz.prog ops Q (o :: rest) a w := by
  obtain ⟨i0, hi, hz0, hz1, hz2⟩ := info_parts infoPl
  refine wpList_append_lies w hgd s x 23 ho base 25 i0 _ 3 40 Tryz.underlying23 hi hz0 hz1 hz2 rfl (by decide) v l.length (l.flatMap plC) hs hown ⟨g0, 0, none⟩ 1 1 (plC (k, n, .slice ad i c)) hx rfl (newsL hc) (onesPl _ _ _ _ _) (by omega) (by unfold maxLen; omega) (by omega) hbase w.heap.size rfl ?_
  intro g cap w' h1 h2 _ h4
  refine h g cap w' ?_ h2 h4
  show w'.ownsRow _ _ _ _ _ _
  rw [List.flatMap_append]; simpa using h1
end
section
variable {ops : Array Oper} {o : Oper} {a : Act} {Kk : Act → World → Prop} {Q : Exit → Act → World → Prop} {Ee : Prop}
end
theorem OwnPl.at {w : World} {B g m cap : Nat} {l : List (Int × Int × Value)} (h : OwnPl w B (.slice (some ⟨g, 0, none⟩) m cap) l) {i : Nat} {k n : Int} {v : Value} (hi : l[i]? = some (k, n, v)) :
    B ≤ g ∧ w.cell? ⟨g, i * 3, none⟩ = some (.int .i64 k) ∧ w.cell? ⟨g, i * 3 + 1, none⟩ = some (.int .i64 n) ∧ w.cell? ⟨g, i * 3 + 2, none⟩ = some v := by
  rcases ownK_open h plC_len with ⟨h1, _⟩ | ⟨g', cap', c, e, hB, hb, hsz, hlc, hm, hf⟩
  · cases h1
  · cases e
    have hil : i < l.length := (List.getElem?_eq_some_iff.1 hi).1
    have f := hf i (k, n, v) hil hi
    exact ⟨hB, hb.cell (by simpa using f 0 (by omega)), hb.cell (by simpa using f 1 (by omega)), hb.cell (by simpa using f 2 (by omega))⟩
end Go.Proofs.YtldejkhemkjcgaaGreatDoor
