/- Appends of a row, where the slice may grow in its place. -/
import Derived.Test.YtpjmkejojenflaaGreatLk0
import Derived.Test.YtpjmkejojenflaaGreatGd1
namespace Go.Proofs.YtpjmkejojenflaaGreat
open Go.RowKit Go.Shelf

section
variable {ops : Array Oper} {o : Oper} {a : Act} {Kk : Act → World → Prop} {Q : Exit → Act → World → Prop} {E : Prop}
theorem stepR2 (w : World) (hgd : o.guard = none) (s x : Operand) (ho : o.op = .call { callee := .builtin .append, args := #[s, x], argTypes := #[23, 23] })
    (base : Nat) (v : Value) (l : List Rw) (hs : a.eval s = v) (hown : OwnR w base v l) (g0 : Nat) (K V A B D : Int) (hx : a.eval x = .slice (some ⟨g0, 0, none⟩) 1 1)
    (hc : Bk w g0 #[.int .i64 K, .int .i64 V, .int .i64 A, .int .i64 B, .int .i64 D] 41) (hl : l.length ≤ 2000000) (hbase : base ≤ w.heap.size)
    (h : ∀ g cap w', OwnR w' base (.slice (some ⟨g, 0, none⟩) (l.length + 1) cap) (l ++ [(((K, V), (A, B)), D)]) → w.grownBy w' v.ownBlock → (v.ownBlock = some g ∨ g = w.heap.size) → g < w'.heap.size → Kk (a.put o.dst (.slice (some ⟨g, 0, none⟩) (l.length + 1) cap)) w') :
    if Region.wanted o (yielded ops a.tmps) = true then Oper.wp Tryz.prog o a w Kk Q else E := by
  obtain ⟨i0, hi, hz0, hz1, hz2⟩ := info_parts infoR
  refine step_append_lies w hgd s x 23 ho base 41 i0 _ 5 40 Tryz.underlying23 hi hz0 hz1 hz2 rfl (by decide) v l.length (l.flatMap rowC) hs hown ⟨g0, 0, none⟩ 1 1 (rowC (((K, V), (A, B)), D)) hx rfl (newsL hc) (onesR _) (by omega) (by unfold maxLen; omega) (by omega) hbase w.heap.size rfl ?_
  intro g cap w' h1 h2 h3 h4
  refine h g cap w' ?_ h2 h3 h4
  show w'.ownsRow _ _ _ _ _ _
  rw [List.flatMap_append]; simpa using h1
end
theorem grown_of {A B : World} (h : Below A.heap.size A B) (r : Option Nat) : A.grownBy B r := ⟨h.os, h.tape, h.output, h.size, fun k hk _ => h.block k hk⟩
theorem ownR_cells {w : World} {B : Nat} {v : Value} {l : List Rw} (h : OwnR w B v l) {q : Nat} (e : v.ownBlock = some q) : ∃ c : Array Value, Bk w q c 41 := by
  rcases ownK_open h rowC_len with ⟨rfl, _⟩ | ⟨g, cap, c, rfl, _, hb, _⟩
  · cases e
  · have : g = q := by simpa [Value.ownBlock] using e
    subst this; exact ⟨c, hb⟩
theorem ownI_cells {w : World} {B : Nat} {v : Value} {l : List It} (h : OwnI w B v l) {q : Nat} (e : v.ownBlock = some q) : ∃ c : Array Value, Bk w q c 69 := by
  rcases ownK_open h itC_len with ⟨rfl, _⟩ | ⟨g, cap, c, rfl, _, hb, _⟩
  · cases e
  · have : g = q := by simpa [Value.ownBlock] using e
    subst this; exact ⟨c, hb⟩
theorem bk_appI {W W' : World} {B yb : Nat} {v : Value} {l : List It} {c : Array Value} (hb : Bk W yb c 35) (ho : OwnI W B v l) (hg : W.grownBy W' v.ownBlock) : Bk W' yb c 35 :=
  Bk.grew hb hg fun r e e' => by
    subst e'
    obtain ⟨d, hd⟩ := ownI_cells ho e
    unfold Bk at hb hd
    rw [hb] at hd
    cases hd
/-! ### What is of another type stays, where a slice grows in its place -/
theorem bk_other {W : World} {g q : Nat} {c d : Array Value} {t t' : TypeId} (h : Bk W g c t) (h' : Bk W q d t') (ht : t ≠ t') : g ≠ q := fun e => by
  subst e
  unfold Bk at h h'
  rw [h] at h'
  cases h'
  exact ht rfl
theorem bk_appR {W W' : World} {B yb : Nat} {v : Value} {l : List Rw} {c : Array Value} {t : TypeId} (hb : Bk W yb c t) (ht : t ≠ 41) (ho : OwnR W B v l) (hg : W.grownBy W' v.ownBlock) : Bk W' yb c t :=
  Bk.grew hb hg fun r e => by
    obtain ⟨d, hd⟩ := ownR_cells ho e
    exact bk_other hb hd ht
theorem ownI_appR {W W' : World} {B B' : Nat} {v u : Value} {l : List It} {m : List Rw} (h : OwnI W B v l) (ho : OwnR W B' u m) (hg : W.grownBy W' u.ownBlock) : OwnI W' B v l :=
  ownK_at h fun q e => hg.block q (ownK_lt h q e) fun e' => by
    obtain ⟨c, hc⟩ := ownI_cells h e
    obtain ⟨d, hd⟩ := ownR_cells ho e'.symm
    exact bk_other hc hd (by decide) rfl
theorem ownR_bx {W W' : World} {B g : Nat} {v : Value} {l : List Rw} {c : Array Value} {t : TypeId} (h : OwnR W B v l) (hb : Bk W g c t) (ht : t ≠ 41) (hx : Bx g W W') : OwnR W' B v l :=
  ownK_at h fun q e => hx.block q (ownK_lt h q e) (by
    obtain ⟨d, hd⟩ := ownR_cells h e
    exact (bk_other hb hd ht).symm)
theorem ownI_bx {W W' : World} {B g : Nat} {v : Value} {l : List It} {c : Array Value} {t : TypeId} (h : OwnI W B v l) (hb : Bk W g c t) (ht : t ≠ 69) (hx : Bx g W W') : OwnI W' B v l :=
  ownK_at h fun q e => hx.block q (ownK_lt h q e) (by
    obtain ⟨d, hd⟩ := ownI_cells h e
    exact (bk_other hb hd ht).symm)
end Go.Proofs.YtpjmkejojenflaaGreat
