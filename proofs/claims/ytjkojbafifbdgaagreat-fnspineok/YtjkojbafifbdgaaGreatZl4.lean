/- Layers as a linked list: what lies at each place. -/
import Derived.Test.YtjkojbafifbdgaaGreatZl3
namespace Go.Proofs.YtjkojbafifbdgaaGreat
open Go.RowKit Go.Shelf

/-- The pointer to the layer at a place, nil behind the last. -/
def nxt (gs : List Nat) (k : Nat) : Value := .pointer ((gs[k]?).map fun g => ⟨g, 0, none⟩)
theorem nxt_at {gs : List Nat} {k g : Nat} (h : gs[k]? = some g) : nxt gs k = .pointer (some ⟨g, 0, none⟩) := by simp [nxt, h]
theorem nxt_end {gs : List Nat} {k : Nat} (h : gs.length ≤ k) : nxt gs k = .pointer none := by simp [nxt, List.getElem?_eq_none h]
theorem LLs.look {w : World} : ∀ {gs : List Nat} {b : Nat} {p : Value} {vs : List Value}, LLs w b p gs vs → p = nxt gs 0 ∧ ∀ (k g : Nat), gs[k]? = some g → ∃ v, vs[k]? = some v ∧ Bk w g #[v, nxt gs (k + 1)] 108
  | [], _, _, _, h => ⟨h.1, fun k g hk => by simp at hk⟩
  | g :: gs, _, _, _, ⟨v, r, q, h1, h2, h3, h4, h5⟩ => by
    obtain ⟨e, hk⟩ := LLs.look h5
    subst h1
    refine ⟨h2, fun k g' hg => ?_⟩
    cases k with
    | zero => simp at hg; subst hg; exact ⟨v, rfl, by rw [e] at h4; exact h4⟩
    | succ k => obtain ⟨v', h6, h7⟩ := hk k g' (by simpa using hg); exact ⟨v', by simpa using h6, h7⟩
theorem LLs.asc {w : World} : ∀ {gs : List Nat} {b : Nat} {p : Value} {vs : List Value}, LLs w b p gs vs → gs.Pairwise (· < ·)
  | [], _, _, _, _ => List.Pairwise.nil
  | g :: gs, _, _, _, ⟨v, r, q, h1, h2, h3, h4, h5⟩ => List.pairwise_cons.2 ⟨fun g' hg' => by have := (LLs.blk h5 g' hg').1; omega, LLs.asc h5⟩
theorem asc_lt {gs : List Nat} (h : gs.Pairwise (· < ·)) {i j a b : Nat} (hij : i < j) (ha : gs[i]? = some a) (hb : gs[j]? = some b) : a < b := by
  obtain ⟨h1, e1⟩ := List.getElem?_eq_some_iff.1 ha
  obtain ⟨h2, e2⟩ := List.getElem?_eq_some_iff.1 hb
  rw [← e1, ← e2]
  exact List.pairwise_iff_getElem.1 h i j h1 h2 hij
def ptrN (v : Value) : Nat := match v with | .pointer (some a) => a.block | _ => 0
/-- What lies at each place of a linked list. -/
theorem Lnk.look {w : World} {B b : Nat} {p : Value} {gs : List Nat} {vs : List Value} {L : List (List Rw)} (h : Lnk w B b p gs vs L) : gs.length = L.length ∧ p = nxt gs 0 ∧ ∀ k, k < L.length → ∃ g a c, gs[k]? = some g ∧ vs[k]? = some (.slice a (gl L k).length c) ∧ (gl L k).length ≤ 1000 ∧ Bk w g #[.slice a (gl L k).length c, nxt gs (k + 1)] 108 ∧ Rs w (.slice a (gl L k).length c) (gl L k) := by
  have hl : gs.length = L.length := by rw [← h.ll.len, h.ow.len]
  obtain ⟨h1, h2⟩ := h.ll.look
  refine ⟨hl, h1, fun k hk => ?_⟩
  have hg : gs[k]? = some (gs[k]'(by omega)) := List.getElem?_eq_getElem (by omega)
  obtain ⟨v, hv, hb⟩ := h2 k _ hg
  have hr := h.ow.each.at hv
  obtain ⟨a, c, rfl, -⟩ := Rs.open hr
  exact ⟨_, a, c, hg, hv, h.ow.few _ (gl_mem hk), hb, hr⟩
end Go.Proofs.YtjkojbafifbdgaaGreat
