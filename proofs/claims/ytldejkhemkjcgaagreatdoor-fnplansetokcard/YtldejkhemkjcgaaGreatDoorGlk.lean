import Derived.Test.YtldejkhemkjcgaaGreatDoorGl1
import Derived.Test.YtldejkhemkjcgaaGreatDoorGs7
import Derived.Test.YtldejkhemkjcgaaGreatDoorGb3
import Derived.Deep.AppendLies
import Derived.Test.YtldejkhemkjcgaaGreatDoorGtX
import Derived.BigRegionIn
import Derived.Sort.CutIn
import Derived.Test.YtldejkhemkjcgaaGreatDoorGd1
import Derived.Test.YtldejkhemkjcgaaGreatDoorGs2
namespace Go.Proofs.YtldejkhemkjcgaaGreatDoor
open Go.RowKit Go.Shelf
end Go.Proofs.YtldejkhemkjcgaaGreatDoor
namespace Go.Proofs.YtldejkhemkjcgaaGreatDoor
open Go.RowKit Go.Shelf
open Go.ChangeMaps (setBlock)
attribute [local go_sem] Oper.semAt_some
end Go.Proofs.YtldejkhemkjcgaaGreatDoor
namespace Go.Proofs.YtldejkhemkjcgaaGreatDoor
open Go.RowKit Go.Shelf
section
variable {ops : Array Oper} {o : Oper} {a : Act} {Kk : Act → World → Prop} {Q : Exit → Act → World → Prop} {E : Prop}
end
theorem ownR_cells {w : World} {B : Nat} {v : Value} {l : List Rw} (h : OwnR w B v l) {q : Nat} (e : v.ownBlock = some q) : ∃ c : Array Value, Bk w q c 56 := by
  rcases ownK_open h rowC_len with ⟨rfl, _⟩ | ⟨g, cap, c, rfl, _, hb, _⟩
  · cases e
  · have : g = q := by simpa [Value.ownBlock] using e
    subst this; exact ⟨c, hb⟩
theorem ownI_cells {w : World} {B : Nat} {v : Value} {l : List It} (h : OwnI w B v l) {q : Nat} (e : v.ownBlock = some q) : ∃ c : Array Value, Bk w q c 63 := by
  rcases ownK_open h itC_len with ⟨rfl, _⟩ | ⟨g, cap, c, rfl, _, hb, _⟩
  · cases e
  · have : g = q := by simpa [Value.ownBlock] using e
    subst this; exact ⟨c, hb⟩
theorem bk_other {W : World} {g q : Nat} {c d : Array Value} {t t' : TypeId} (h : Bk W g c t) (h' : Bk W q d t') (ht : t ≠ t') : g ≠ q := fun e => by
  subst e
  unfold Bk at h h'
  rw [h] at h'
  cases h'
  exact ht rfl
end Go.Proofs.YtldejkhemkjcgaaGreatDoor
namespace Go.Proofs.YtldejkhemkjcgaaGreatDoor
open Go.RowKit Go.Shelf
abbrev oneR (v : Value) : List Value := [v]
theorem oneR_len (v : Value) : (oneR v).length = 1 := rfl
abbrev VsR (w : World) (v : Value) (vs : List Value) : Prop := SlK oneR 1 w v vs
abbrev OwnVR (w : World) (B : Nat) (v : Value) (vs : List Value) : Prop := OwnK oneR 1 29 w B v vs
theorem OwnVR.vs {w : World} {B : Nat} {v : Value} {l : List Value} (h : OwnVR w B v l) (hl : l.length ≤ 2097152) : VsR w v l := ownK_sl h oneR_len hl
def LyR (w : World) (v : Value) (K : List (List Rw)) : Prop := ∃ vs : List Value, VsR w v vs ∧ vs.length = K.length ∧ ∀ (i : Nat) (u : Value) (l : List Rw), vs[i]? = some u → K[i]? = some l → Rs w u l
theorem LyR.keep {w w1 : World} {v : Value} {K : List (List Rw)} (h : LyR w v K) (hb : Below w.heap.size w w1) : LyR w1 v K := by
  obtain ⟨vs, h1, h2, h3⟩ := h
  exact ⟨vs, h1.keep hb, h2, fun i u l e1 e2 => (h3 i u l e1 e2).keep hb⟩
theorem LyR.open {w : World} {v : Value} {K : List (List Rw)} (h : LyR w v K) : ∃ a cap, v = .slice a K.length cap ∧ K.length ≤ cap ∧ cap ≤ maxLen ∧ K.length ≤ 2097152 ∧
    ∀ (i : Nat) (l : List Rw), K[i]? = some l → ∃ g off ad cp, a = some ⟨g, off, none⟩ ∧ g < w.heap.size ∧ w.cell? ⟨g, off + i, none⟩ = some (.slice ad l.length cp) ∧ Rs w (.slice ad l.length cp) l := by
  obtain ⟨vs, ⟨a, cap, h0, h1, h2, h3, h4⟩, hl, he⟩ := h
  rw [hl] at h0 h1 h3
  refine ⟨a, cap, h0, h1, h2, h3, fun i l hi => ?_⟩
  have hi' : i < vs.length := by rw [hl]; exact (List.getElem?_eq_some_iff.1 hi).1
  obtain ⟨g, off, ha, hg, c⟩ := h4 i vs[i] (List.getElem?_eq_getElem hi')
  have hr := he i _ l (List.getElem?_eq_getElem hi') hi
  obtain ⟨ad, cp, e, -⟩ := Rs.open hr
  have hc := c 0 (by omega)
  rw [Nat.mul_one, Nat.add_zero] at hc
  exact ⟨g, off, ad, cp, ha, hg, by rw [← e]; exact hc, by rw [← e]; exact hr⟩
theorem LyR.sl {w : World} {v : Value} {K : List (List Rw)} (h : LyR w v K) : ∃ a cap, v = .slice a K.length cap := by
  obtain ⟨a, cap, e, -⟩ := h.open
  exact ⟨a, cap, e⟩
theorem LyR.one {w : World} {v : Value} {x : List Rw} (h : LyR w v [x]) : ∃ g off cap ad cp, v = .slice (some ⟨g, off, none⟩) 1 cap ∧ g < w.heap.size ∧ w.cell? ⟨g, off, none⟩ = some (.slice ad x.length cp) ∧ Rs w (.slice ad x.length cp) x ∧ 1 ≤ cap ∧ cap ≤ maxLen := by
  obtain ⟨a, cap, rfl, h1, h2, h3, hc⟩ := h.open
  obtain ⟨g, off, ad, cp, rfl, hg, c0, R0⟩ := hc 0 x rfl
  exact ⟨g, off, cap, ad, cp, rfl, hg, by simpa using c0, R0, h1, h2⟩
theorem LyR.two {w : World} {v : Value} {x y : List Rw} (h : LyR w v [x, y]) : ∃ g off cap ad cp ad' cp', v = .slice (some ⟨g, off, none⟩) 2 cap ∧ g < w.heap.size ∧ w.cell? ⟨g, off, none⟩ = some (.slice ad x.length cp) ∧ w.cell? ⟨g, off + 1, none⟩ = some (.slice ad' y.length cp') ∧ Rs w (.slice ad x.length cp) x ∧ Rs w (.slice ad' y.length cp') y ∧ 2 ≤ cap ∧ cap ≤ maxLen := by
  obtain ⟨a, cap, rfl, h1, h2, h3, hc⟩ := h.open
  obtain ⟨g, off, ad, cp, rfl, hg, c0, R0⟩ := hc 0 x rfl
  obtain ⟨g', off', ad', cp', e, hg', c1, R1⟩ := hc 1 y rfl
  cases e
  exact ⟨g, off, cap, ad, cp, ad', cp', rfl, hg, by simpa using c0, c1, R0, R1, h1, h2⟩
def EoR (w : World) (B : Nat) (vs : List Value) (K : List (List Rw)) : Prop := vs.length = K.length ∧ (∀ (i : Nat) (u : Value) (l : List Rw), vs[i]? = some u → K[i]? = some l → OwnR w B u l) ∧ ∀ l ∈ K, l.length ≤ 1000000
theorem EoR.nil (w : World) (B : Nat) : EoR w B [] [] := ⟨rfl, fun i u l h => by simp at h, fun l h => by simp at h⟩
theorem EoR.keep {w w1 : World} {B : Nat} {vs : List Value} {K : List (List Rw)} (h : EoR w B vs K) (hb : Below w.heap.size w w1) : EoR w1 B vs K := ⟨h.1, fun i u l h1 h2 => own_keep (h.2.1 i u l h1 h2) hb, h.2.2⟩
theorem EoR.less {w : World} {B B' : Nat} {vs : List Value} {K : List (List Rw)} (h : EoR w B vs K) (hB : B' ≤ B) : EoR w B' vs K := ⟨h.1, fun i u l h1 h2 => own_less (h.2.1 i u l h1 h2) hB, h.2.2⟩
theorem ownVR_cells {w : World} {B : Nat} {v : Value} {l : List Value} (h : OwnVR w B v l) {q : Nat} (e : v.ownBlock = some q) : ∃ c : Array Value, Bk w q c 29 := by
  rcases ownK_open h oneR_len with ⟨rfl, _⟩ | ⟨g, cap, c, rfl, _, hb, _⟩
  · cases e
  · have : g = q := by simpa [Value.ownBlock] using e
    subst this; exact ⟨c, hb⟩
theorem EoR.grew {w w1 : World} {B B' : Nat} {vs vs' : List Value} {K : List (List Rw)} {v : Value} (h : EoR w B vs K) (hv : OwnVR w B' v vs') (hg : w.grownBy w1 v.ownBlock) : EoR w1 B vs K :=
  ⟨h.1, fun i u l h1 h2 => by
    have ho := h.2.1 i u l h1 h2
    refine ownK_at ho fun q e => hg.block q (ownK_lt ho q e) fun e' => ?_
    obtain ⟨c, hc⟩ := ownR_cells ho e
    obtain ⟨d, hd⟩ := ownVR_cells hv e'.symm
    exact bk_other hc hd (by decide) rfl, h.2.2⟩
theorem EoR.snoc {w : World} {B : Nat} {vs : List Value} {K : List (List Rw)} {u : Value} {l : List Rw} (h : EoR w B vs K) (hu : OwnR w B u l) (hl : l.length ≤ 1000000) : EoR w B (vs ++ [u]) (K ++ [l]) := by
  refine ⟨by rw [List.length_append, List.length_append, h.1]; rfl, fun i u' l' h1 h2 => ?_, fun l' hl' => ?_⟩
  · by_cases hi : i < vs.length
    · rw [List.getElem?_append_left hi] at h1
      rw [List.getElem?_append_left (by rw [← h.1]; exact hi)] at h2
      exact h.2.1 i u' l' h1 h2
    · rw [List.getElem?_append_right (by omega)] at h1
      rw [List.getElem?_append_right (by rw [← h.1]; omega)] at h2
      by_cases h0 : i - vs.length = 0
      · rw [h0] at h1
        rw [← h.1, h0] at h2
        cases h1; cases h2; exact hu
      · rw [List.getElem?_eq_none (by simp; omega)] at h1; cases h1
  · rcases List.mem_append.1 hl' with h1 | h1
    · exact h.2.2 l' h1
    · simp at h1; subst h1; exact hl
theorem EoR.ly {w : World} {B B' : Nat} {v : Value} {vs : List Value} {K : List (List Rw)} (h : EoR w B vs K) (hv : OwnVR w B' v vs) (hl : vs.length ≤ 2097152) : LyR w v K :=
  ⟨vs, OwnVR.vs hv hl, h.1, fun i u l h1 h2 => OwnR.rs (h.2.1 i u l h1 h2) (by have := h.2.2 l (List.mem_of_getElem? h2); omega)⟩
section
variable {ops : Array Oper} {rest : List Oper} {o : Oper} {a : Act} {Q : Exit → Act → World → Prop}
end
section
variable {ops : Array Oper} {o : Oper} {a : Act} {Kk : Act → World → Prop} {Q : Exit → Act → World → Prop} {Ee : Prop}
end
end Go.Proofs.YtldejkhemkjcgaaGreatDoor
namespace Go.Proofs.YtldejkhemkjcgaaGreatDoor
open Go.RowKit Go.Shelf
abbrev oneI (v : Value) : List Value := [v]
theorem oneI_len (v : Value) : (oneI v).length = 1 := rfl
abbrev VsI (w : World) (v : Value) (vs : List Value) : Prop := SlK oneI 1 w v vs
abbrev OwnVI (w : World) (B : Nat) (v : Value) (vs : List Value) : Prop := OwnK oneI 1 35 w B v vs
theorem infoVI : (Tryz.prog.info? 35).map (fun i => (i.zero, i.size, i.bytes)) = some (some (.slice none 0 0), 1, 24) := by kernel_rfl
theorem OwnVI.vs {w : World} {B : Nat} {v : Value} {l : List Value} (h : OwnVI w B v l) (hl : l.length ≤ 2097152) : VsI w v l := ownK_sl h oneI_len hl
def LyI (w : World) (v : Value) (K : List (List It)) : Prop := ∃ vs : List Value, VsI w v vs ∧ vs.length = K.length ∧ ∀ (i : Nat) (u : Value) (l : List It), vs[i]? = some u → K[i]? = some l → Is w u l
theorem LyI.keep {w w1 : World} {v : Value} {K : List (List It)} (h : LyI w v K) (hb : Below w.heap.size w w1) : LyI w1 v K := by
  obtain ⟨vs, h1, h2, h3⟩ := h
  exact ⟨vs, h1.keep hb, h2, fun i u l e1 e2 => (h3 i u l e1 e2).keep hb⟩
theorem LyI.open {w : World} {v : Value} {K : List (List It)} (h : LyI w v K) : ∃ a cap, v = .slice a K.length cap ∧ K.length ≤ cap ∧ cap ≤ maxLen ∧ K.length ≤ 2097152 ∧
    ∀ (i : Nat) (l : List It), K[i]? = some l → ∃ g off ad cp, a = some ⟨g, off, none⟩ ∧ g < w.heap.size ∧ w.cell? ⟨g, off + i, none⟩ = some (.slice ad l.length cp) ∧ Is w (.slice ad l.length cp) l := by
  obtain ⟨vs, ⟨a, cap, h0, h1, h2, h3, h4⟩, hl, he⟩ := h
  rw [hl] at h0 h1 h3
  refine ⟨a, cap, h0, h1, h2, h3, fun i l hi => ?_⟩
  have hi' : i < vs.length := by rw [hl]; exact (List.getElem?_eq_some_iff.1 hi).1
  obtain ⟨g, off, ha, hg, c⟩ := h4 i vs[i] (List.getElem?_eq_getElem hi')
  have hr := he i _ l (List.getElem?_eq_getElem hi') hi
  obtain ⟨ad, cp, e, -⟩ := Is.open hr
  have hc := c 0 (by omega)
  rw [Nat.mul_one, Nat.add_zero] at hc
  exact ⟨g, off, ad, cp, ha, hg, by rw [← e]; exact hc, by rw [← e]; exact hr⟩
theorem LyI.sl {w : World} {v : Value} {K : List (List It)} (h : LyI w v K) : ∃ a cap, v = .slice a K.length cap := by
  obtain ⟨a, cap, e, -⟩ := h.open
  exact ⟨a, cap, e⟩
theorem LyI.one {w : World} {v : Value} {x : List It} (h : LyI w v [x]) : ∃ g off cap ad cp, v = .slice (some ⟨g, off, none⟩) 1 cap ∧ g < w.heap.size ∧ w.cell? ⟨g, off, none⟩ = some (.slice ad x.length cp) ∧ Is w (.slice ad x.length cp) x ∧ 1 ≤ cap ∧ cap ≤ maxLen := by
  obtain ⟨a, cap, rfl, h1, h2, h3, hc⟩ := h.open
  obtain ⟨g, off, ad, cp, rfl, hg, c0, R0⟩ := hc 0 x rfl
  exact ⟨g, off, cap, ad, cp, rfl, hg, by simpa using c0, R0, h1, h2⟩
theorem LyI.two {w : World} {v : Value} {x y : List It} (h : LyI w v [x, y]) : ∃ g off cap ad cp ad' cp', v = .slice (some ⟨g, off, none⟩) 2 cap ∧ g < w.heap.size ∧ w.cell? ⟨g, off, none⟩ = some (.slice ad x.length cp) ∧ w.cell? ⟨g, off + 1, none⟩ = some (.slice ad' y.length cp') ∧ Is w (.slice ad x.length cp) x ∧ Is w (.slice ad' y.length cp') y ∧ 2 ≤ cap ∧ cap ≤ maxLen := by
  obtain ⟨a, cap, rfl, h1, h2, h3, hc⟩ := h.open
  obtain ⟨g, off, ad, cp, rfl, hg, c0, R0⟩ := hc 0 x rfl
  obtain ⟨g', off', ad', cp', e, hg', c1, R1⟩ := hc 1 y rfl
  cases e
  exact ⟨g, off, cap, ad, cp, ad', cp', rfl, hg, by simpa using c0, c1, R0, R1, h1, h2⟩
def EoI (w : World) (B : Nat) (vs : List Value) (K : List (List It)) : Prop := vs.length = K.length ∧ (∀ (i : Nat) (u : Value) (l : List It), vs[i]? = some u → K[i]? = some l → OwnI w B u l) ∧ ∀ l ∈ K, l.length ≤ 1000000
theorem EoI.nil (w : World) (B : Nat) : EoI w B [] [] := ⟨rfl, fun i u l h => by simp at h, fun l h => by simp at h⟩
theorem EoI.keep {w w1 : World} {B : Nat} {vs : List Value} {K : List (List It)} (h : EoI w B vs K) (hb : Below w.heap.size w w1) : EoI w1 B vs K := ⟨h.1, fun i u l h1 h2 => own_keep (h.2.1 i u l h1 h2) hb, h.2.2⟩
theorem EoI.less {w : World} {B B' : Nat} {vs : List Value} {K : List (List It)} (h : EoI w B vs K) (hB : B' ≤ B) : EoI w B' vs K := ⟨h.1, fun i u l h1 h2 => own_less (h.2.1 i u l h1 h2) hB, h.2.2⟩
theorem ownVI_cells {w : World} {B : Nat} {v : Value} {l : List Value} (h : OwnVI w B v l) {q : Nat} (e : v.ownBlock = some q) : ∃ c : Array Value, Bk w q c 35 := by
  rcases ownK_open h oneI_len with ⟨rfl, _⟩ | ⟨g, cap, c, rfl, _, hb, _⟩
  · cases e
  · have : g = q := by simpa [Value.ownBlock] using e
    subst this; exact ⟨c, hb⟩
theorem EoI.grew {w w1 : World} {B B' : Nat} {vs vs' : List Value} {K : List (List It)} {v : Value} (h : EoI w B vs K) (hv : OwnVI w B' v vs') (hg : w.grownBy w1 v.ownBlock) : EoI w1 B vs K :=
  ⟨h.1, fun i u l h1 h2 => by
    have ho := h.2.1 i u l h1 h2
    refine ownK_at ho fun q e => hg.block q (ownK_lt ho q e) fun e' => ?_
    obtain ⟨c, hc⟩ := ownI_cells ho e
    obtain ⟨d, hd⟩ := ownVI_cells hv e'.symm
    exact bk_other hc hd (by decide) rfl, h.2.2⟩
theorem EoI.snoc {w : World} {B : Nat} {vs : List Value} {K : List (List It)} {u : Value} {l : List It} (h : EoI w B vs K) (hu : OwnI w B u l) (hl : l.length ≤ 1000000) : EoI w B (vs ++ [u]) (K ++ [l]) := by
  refine ⟨by rw [List.length_append, List.length_append, h.1]; rfl, fun i u' l' h1 h2 => ?_, fun l' hl' => ?_⟩
  · by_cases hi : i < vs.length
    · rw [List.getElem?_append_left hi] at h1
      rw [List.getElem?_append_left (by rw [← h.1]; exact hi)] at h2
      exact h.2.1 i u' l' h1 h2
    · rw [List.getElem?_append_right (by omega)] at h1
      rw [List.getElem?_append_right (by rw [← h.1]; omega)] at h2
      by_cases h0 : i - vs.length = 0
      · rw [h0] at h1
        rw [← h.1, h0] at h2
        cases h1; cases h2; exact hu
      · rw [List.getElem?_eq_none (by simp; omega)] at h1; cases h1
  · rcases List.mem_append.1 hl' with h1 | h1
    · exact h.2.2 l' h1
    · simp at h1; subst h1; exact hl
theorem EoI.ly {w : World} {B B' : Nat} {v : Value} {vs : List Value} {K : List (List It)} (h : EoI w B vs K) (hv : OwnVI w B' v vs) (hl : vs.length ≤ 2097152) : LyI w v K :=
  ⟨vs, OwnVI.vs hv hl, h.1, fun i u l h1 h2 => OwnI.is (h.2.1 i u l h1 h2) (by have := h.2.2 l (List.mem_of_getElem? h2); omega)⟩
section
variable {ops : Array Oper} {rest : List Oper} {o : Oper} {a : Act} {Q : Exit → Act → World → Prop}
theorem appVI (w : World) (hgd : o.guard = none) (s x : Operand) (ho : o.op = .call { callee := .builtin .append, args := #[s, x], argTypes := #[38, 38] })
    (base : Nat) (v : Value) (l : List Value) (hs : a.eval s = v) (hown : OwnVI w base v l) (g0 : Nat) (ad : Option Addr) (n c : Nat) (hx : a.eval x = .slice (some ⟨g0, 0, none⟩) 1 1)
    (hc : Bk w g0 #[.slice ad n c] 35) (hl : l.length ≤ 2000000) (hbase : base ≤ w.heap.size)
    (h : ∀ g cap w', OwnVI w' base (.slice (some ⟨g, 0, none⟩) (l.length + 1) cap) (l ++ [.slice ad n c]) → w.grownBy w' v.ownBlock → g < w'.heap.size → wpList Tryz.prog ops Q rest (a.put o.dst (.slice (some ⟨g, 0, none⟩) (l.length + 1) cap)) w') :
    wpList Tryz.prog ops Q (o :: rest) a w := by
  obtain ⟨i0, hi, hz0, hz1, hz2⟩ := info_parts infoVI
  refine wpList_append_lies w hgd s x 38 ho base 35 i0 _ 1 24 Tryz.underlying38 hi hz0 hz1 hz2 rfl (by decide) v l.length (l.flatMap oneI) hs hown ⟨g0, 0, none⟩ 1 1 (oneI (.slice ad n c)) hx rfl (newsL hc) (fun u hu => by simp at hu; subst hu; rfl) (by omega) (by unfold maxLen; omega) (by omega) hbase w.heap.size rfl ?_
  intro g cap w' h1 h2 _ h4
  refine h g cap w' ?_ h2 h4
  show w'.ownsRow _ _ _ _ _ _
  rw [List.flatMap_append]; simpa using h1
end
section
variable {ops : Array Oper} {o : Oper} {a : Act} {Kk : Act → World → Prop} {Q : Exit → Act → World → Prop} {Ee : Prop}
end
theorem ownVI_empty (w : World) {B : Nat} (hB : B = w.heap.size) : OwnVI (w.alloc (.cells #[] 35)) B (.slice (some ⟨B, 0, none⟩) 0 0) [] := by
  subst hB; exact own_empty w _ 1
end Go.Proofs.YtldejkhemkjcgaaGreatDoor
