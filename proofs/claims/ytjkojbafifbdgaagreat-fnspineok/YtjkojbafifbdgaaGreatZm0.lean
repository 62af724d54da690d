/- Layers of a spine in memory: facts. -/
import Derived.Test.YtjkojbafifbdgaaGreatZp1
import Derived.Test.YtjkojbafifbdgaaGreatGb3
import Derived.Test.YtjkojbafifbdgaaGreatGs2
namespace Go.Proofs.YtjkojbafifbdgaaGreat
open Go.RowKit Go.Shelf

abbrev valC (v : Value) : List Value := [v]
theorem valC_len (v : Value) : (valC v).length = 1 := rfl
abbrev Vs (w : World) (v : Value) (vs : List Value) : Prop := SlK valC 1 w v vs
abbrev OwnV (w : World) (B : Nat) (v : Value) (vs : List Value) : Prop := OwnK valC 1 33 w B v vs
theorem infoV : (Tryz.prog.info? 33).map (fun i => (i.zero, i.size, i.bytes)) = some (some (.slice none 0 0), 1, 24) := by kernel_rfl
theorem OwnV.vs {w : World} {B : Nat} {v : Value} {l : List Value} (h : OwnV w B v l) (hl : l.length ≤ 2097152) : Vs w v l := ownK_sl h valC_len hl
theorem flatV (l : List Value) : l.flatMap valC = l := by
  induction l with
  | nil => rfl
  | cons x l ih => rw [List.flatMap_cons, ih]; rfl
/-- A list of slices of rows, one by one. -/
def Each (w : World) (vs : List Value) (L : List (List Rw)) : Prop := vs.length = L.length ∧ ∀ (i : Nat) (u : Value) (l : List Rw), vs[i]? = some u → L[i]? = some l → Rs w u l
theorem Each.keep {w w1 : World} {vs : List Value} {L : List (List Rw)} (h : Each w vs L) (hb : Below w.heap.size w w1) : Each w1 vs L := ⟨h.1, fun i u l h1 h2 => (h.2 i u l h1 h2).keep hb⟩
theorem Each.nil (w : World) : Each w [] [] := ⟨rfl, fun i u l h => by simp at h⟩
theorem Each.snoc {w : World} {vs : List Value} {L : List (List Rw)} {u : Value} {l : List Rw} (h : Each w vs L) (hu : Rs w u l) : Each w (vs ++ [u]) (L ++ [l]) := by
  refine ⟨by rw [List.length_append, List.length_append, h.1]; rfl, fun i u' l' h1 h2 => ?_⟩
  by_cases hi : i < vs.length
  · rw [List.getElem?_append_left hi] at h1
    rw [List.getElem?_append_left (by rw [← h.1]; exact hi)] at h2
    exact h.2 i u' l' h1 h2
  · rw [List.getElem?_append_right (by omega)] at h1
    rw [List.getElem?_append_right (by rw [← h.1]; omega)] at h2
    by_cases h0 : i - vs.length = 0
    · rw [h0] at h1
      rw [← h.1, h0] at h2
      cases h1; cases h2; exact hu
    · rw [List.getElem?_eq_none (by simp; omega)] at h1; cases h1
theorem Each.at {w : World} {vs : List Value} {L : List (List Rw)} (h : Each w vs L) {i : Nat} {u : Value} (hu : vs[i]? = some u) : Rs w u (gl L i) :=
  h.2 i u _ hu (gl_at (by rw [← h.1]; exact (List.getElem?_eq_some_iff.1 hu).1))
theorem Each.take {w : World} {vs : List Value} {L : List (List Rw)} (h : Each w vs L) (n : Nat) : Each w (vs.take n) (L.take n) := by
  refine ⟨by rw [List.length_take, List.length_take, h.1], fun i u l h1 h2 => ?_⟩
  by_cases hi : i < n
  · rw [List.getElem?_take_of_lt hi] at h1 h2; exact h.2 i u l h1 h2
  · rw [List.getElem?_eq_none (by rw [List.length_take]; omega)] at h1; cases h1
theorem Each.drop {w : World} {vs : List Value} {L : List (List Rw)} (h : Each w vs L) (n : Nat) : Each w (vs.drop n) (L.drop n) := by
  refine ⟨by rw [List.length_drop, List.length_drop, h.1], fun i u l h1 h2 => ?_⟩
  rw [List.getElem?_drop] at h1 h2
  exact h.2 (n + i) u l h1 h2
theorem Each.append {w : World} {vs ws : List Value} {L M : List (List Rw)} (h : Each w vs L) (k : Each w ws M) : Each w (vs ++ ws) (L ++ M) := by
  refine ⟨by rw [List.length_append, List.length_append, h.1, k.1], fun i u l h1 h2 => ?_⟩
  by_cases hi : i < vs.length
  · rw [List.getElem?_append_left hi] at h1
    rw [List.getElem?_append_left (by rw [← h.1]; exact hi)] at h2
    exact h.2 i u l h1 h2
  · rw [List.getElem?_append_right (by omega)] at h1
    rw [List.getElem?_append_right (by rw [← h.1]; omega), ← h.1] at h2
    exact k.2 _ u l h1 h2
/-- The slice v holds the layers L. -/
def Ly (w : World) (v : Value) (L : List (List Rw)) : Prop := ∃ vs : List Value, Vs w v vs ∧ Each w vs L
theorem Ly.keep {w w1 : World} {v : Value} {L : List (List Rw)} (h : Ly w v L) (hb : Below w.heap.size w w1) : Ly w1 v L := by
  obtain ⟨vs, h1, h2⟩ := h
  exact ⟨vs, h1.keep hb, h2.keep hb⟩
theorem Ly.nil (w : World) : Ly w (.slice none 0 0) [] := ⟨[], OwnV.vs (ownK_nil valC 1 33 w 0) (by simp), Each.nil w⟩
theorem OwnV.ly {w : World} {B : Nat} {v : Value} {vs : List Value} {L : List (List Rw)} (h : OwnV w B v vs) (hl : vs.length ≤ 2097152) (he : Each w vs L) : Ly w v L := ⟨vs, OwnV.vs h hl, he⟩
theorem Ly.open {w : World} {v : Value} {L : List (List Rw)} (h : Ly w v L) : ∃ a cap, v = .slice a L.length cap ∧ L.length ≤ cap ∧ cap ≤ maxLen ∧ L.length ≤ 2097152 ∧
    ∀ i, i < L.length → ∃ g off ad cp, a = some ⟨g, off, none⟩ ∧ g < w.heap.size ∧ w.cell? ⟨g, off + i, none⟩ = some (.slice ad (gl L i).length cp) ∧ Rs w (.slice ad (gl L i).length cp) (gl L i) := by
  obtain ⟨vs, ⟨a, cap, h0, h1, h2, h3, h4⟩, he⟩ := h
  rw [he.1] at h0 h1 h3
  refine ⟨a, cap, h0, h1, h2, h3, fun i hi => ?_⟩
  have hi' : i < vs.length := by rw [he.1]; exact hi
  obtain ⟨g, off, ha, hg, c⟩ := h4 i vs[i] (List.getElem?_eq_getElem hi')
  have hr := he.at (List.getElem?_eq_getElem hi')
  obtain ⟨ad, cp, e, -⟩ := Rs.open hr
  have hc := c 0 (by omega)
  rw [Nat.mul_one, Nat.add_zero] at hc
  exact ⟨g, off, ad, cp, ha, hg, by rw [← e]; exact hc, by rw [← e]; exact hr⟩
theorem Ly.len {w : World} {v : Value} {L : List (List Rw)} (h : Ly w v L) : L.length ≤ 2097152 := by
  obtain ⟨_, _, _, _, _, h3, _⟩ := Ly.open h; exact h3
/-- A spine as a value. -/
abbrev spv (lv fv : Value) : Value := .agg #[lv, fv]
def Spn (w : World) (lv fv : Value) (L : List (List Rw)) (F : List (Int × Int)) : Prop := Ly w lv L ∧ Ts w fv F
theorem Spn.keep {w w1 : World} {lv fv : Value} {L : List (List Rw)} {F : List (Int × Int)} (h : Spn w lv fv L F) (hb : Below w.heap.size w w1) : Spn w1 lv fv L F := ⟨h.1.keep hb, h.2.keep hb⟩
theorem oneSl (a : Option Addr) (n c : Nat) : (Value.slice a n c).oneCell' = true := rfl
section
variable {ops : Array Oper} {rest : List Oper} {o : Oper} {a : Act} {Q : Exit → Act → World → Prop}
theorem appV (w : World) (hgd : o.guard = none) (s x : Operand) (ho : o.op = .call { callee := .builtin .append, args := #[s, x], argTypes := #[23, 23] })
    (base : Nat) (v : Value) (l : List Value) (hs : a.eval s = v) (hown : OwnV w base v l) (g0 : Nat) (ad : Option Addr) (n c : Nat) (hx : a.eval x = .slice (some ⟨g0, 0, none⟩) 1 1)
    (hc : Bk w g0 #[.slice ad n c] 33) (hl : l.length ≤ 2000000) (hbase : base ≤ w.heap.size)
    (h : ∀ g cap w', OwnV w' base (.slice (some ⟨g, 0, none⟩) (l.length + 1) cap) (l ++ [.slice ad n c]) → w.grownBy w' v.ownBlock → g < w'.heap.size → wpList Tryz.prog ops Q rest (a.put o.dst (.slice (some ⟨g, 0, none⟩) (l.length + 1) cap)) w') :
    wpList Tryz.prog ops Q (o :: rest) a w := by
  obtain ⟨i0, hi, hz0, hz1, hz2⟩ := info_parts infoV
  refine wpList_append_lies w hgd s x 23 ho base 33 i0 _ 1 24 Tryz.underlying23 hi hz0 hz1 hz2 rfl (by decide) v l.length (l.flatMap valC) hs hown ⟨g0, 0, none⟩ 1 1 (valC (.slice ad n c)) hx rfl (newsL hc) (fun u hu => by simp at hu; subst hu; rfl) (by omega) (by unfold maxLen; omega) (by omega) hbase w.heap.size rfl ?_
  intro g cap w' h1 h2 _ h4
  refine h g cap w' ?_ h2 h4
  show w'.ownsRow _ _ _ _ _ _
  rw [List.flatMap_append]; simpa using h1
end
end Go.Proofs.YtjkojbafifbdgaaGreat
