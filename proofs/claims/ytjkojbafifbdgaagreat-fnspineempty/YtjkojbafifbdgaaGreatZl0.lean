/- Layers as a linked list in memory: facts. -/
import Derived.Test.YtjkojbafifbdgaaGreatZm0
namespace Go.Proofs.YtjkojbafifbdgaaGreat
open Go.RowKit Go.Shelf

/-- Slices of rows of a call's own, one by one, none in the memory of another. -/
structure EachO (w : World) (B : Nat) (vs : List Value) (L : List (List Rw)) : Prop where
  len : vs.length = L.length
  own : ∀ (i : Nat) (u : Value) (l : List Rw), vs[i]? = some u → L[i]? = some l → OwnR w B u l
  few : ∀ l ∈ L, l.length ≤ 1000
  nd : (vs.filterMap Value.ownBlock).Nodup
theorem EachO.each {w : World} {B : Nat} {vs : List Value} {L : List (List Rw)} (h : EachO w B vs L) : Each w vs L :=
  ⟨h.len, fun i u l h1 h2 => OwnR.rs (h.own i u l h1 h2) (by have := h.few l (List.mem_of_getElem? h2); omega)⟩
theorem EachO.nil (w : World) (B : Nat) : EachO w B [] [] := ⟨rfl, fun i u l h => by simp at h, fun l h => by simp at h, by simp⟩
theorem EachO.mono {w w1 : World} {B : Nat} {vs : List Value} {L : List (List Rw)} (h : EachO w B vs L) (hk : ∀ (q : Nat) (c : Array Value), Bk w q c 74 → w1.heap[q]? = w.heap[q]?) : EachO w1 B vs L := by
  refine ⟨h.len, fun i u l h1 h2 => ?_, h.few, h.nd⟩
  have ho := h.own i u l h1 h2
  refine ownK_at ho fun q e => ?_
  rcases ownK_open ho rowC_len with ⟨rfl, _⟩ | ⟨g, cap, c, rfl, _, hb, _⟩
  · simp [Value.ownBlock] at e
  · simp [Value.ownBlock] at e; subst e; exact hk g c hb
theorem EachO.keep {w w1 : World} {B : Nat} {vs : List Value} {L : List (List Rw)} (h : EachO w B vs L) (hb : Below w.heap.size w w1) : EachO w1 B vs L := h.mono fun q _ hq => hb.block q hq.lt
theorem EachO.less {w : World} {B B' : Nat} {vs : List Value} {L : List (List Rw)} (h : EachO w B vs L) (hB : B' ≤ B) : EachO w B' vs L := ⟨h.len, fun i u l h1 h2 => own_less (h.own i u l h1 h2) hB, h.few, h.nd⟩
theorem EachO.blk {w : World} {B : Nat} {vs : List Value} {L : List (List Rw)} (h : EachO w B vs L) {q : Nat} (hq : q ∈ vs.filterMap Value.ownBlock) : ∃ c : Array Value, Bk w q c 74 ∧ B ≤ q := by
  obtain ⟨u, hu, e⟩ := List.mem_filterMap.1 hq
  obtain ⟨i, hi, e2⟩ := List.getElem_of_mem hu
  have h1 : vs[i]? = some u := by rw [List.getElem?_eq_getElem hi, e2]
  have h2 := gl_at (L := L) (i := i) (by rw [← h.len]; exact hi)
  have ho := h.own i u _ h1 h2
  rcases ownK_open ho rowC_len with ⟨rfl, _⟩ | ⟨g, cap, c, rfl, hg, hb, _⟩
  · simp [Value.ownBlock] at e
  · simp [Value.ownBlock] at e; subst e; exact ⟨c, hb, hg⟩
theorem EachO.snoc {w : World} {B : Nat} {vs : List Value} {L : List (List Rw)} {u : Value} {l : List Rw} (h : EachO w B vs L) (hu : OwnR w B u l) (hl : l.length ≤ 1000) (hn : ∀ q, u.ownBlock = some q → q ∉ vs.filterMap Value.ownBlock) : EachO w B (vs ++ [u]) (L ++ [l]) := by
  refine ⟨by rw [List.length_append, List.length_append, h.len]; rfl, fun i u' l' h1 h2 => ?_, fun m hm => ?_, ?_⟩
  · by_cases hi : i < vs.length
    · rw [List.getElem?_append_left hi] at h1
      rw [List.getElem?_append_left (by rw [← h.len]; exact hi)] at h2
      exact h.own i u' l' h1 h2
    · rw [List.getElem?_append_right (by omega)] at h1
      rw [List.getElem?_append_right (by rw [← h.len]; omega)] at h2
      by_cases h0 : i - vs.length = 0
      · rw [h0] at h1
        rw [← h.len, h0] at h2
        cases h1; cases h2; exact hu
      · rw [List.getElem?_eq_none (by simp; omega)] at h1; cases h1
  · rcases List.mem_append.1 hm with hm | hm
    · exact h.few m hm
    · rw [List.mem_singleton.1 hm]; exact hl
  · rw [List.filterMap_append, List.nodup_append]
    refine ⟨h.nd, ?_, fun a ha b hb e => ?_⟩
    · cases hq : u.ownBlock <;> simp [hq]
    · subst e
      obtain ⟨u', hu', e'⟩ := List.mem_filterMap.1 hb
      rw [List.mem_singleton.1 hu'] at e'
      exact hn a e' ha
/-- The layers from the pointer p on: their blocks ascend. -/
def LLs (w : World) : Nat → Value → List Nat → List Value → Prop
  | _, p, [], vs => p = .pointer none ∧ vs = []
  | b, p, g :: gs, vs => ∃ v r q, vs = v :: r ∧ p = .pointer (some ⟨g, 0, none⟩) ∧ b ≤ g ∧ Bk w g #[v, q] 108 ∧ LLs w (g + 1) q gs r
theorem LLs.mono {w w1 : World} : ∀ {gs : List Nat} {b : Nat} {p : Value} {vs : List Value}, LLs w b p gs vs → (∀ g ∈ gs, w1.heap[g]? = w.heap[g]?) → LLs w1 b p gs vs
  | [], _, _, _, h, _ => h
  | g :: gs, _, _, _, ⟨v, r, q, h1, h2, h3, h4, h5⟩, hk => ⟨v, r, q, h1, h2, h3, by unfold Bk; rw [hk g (by simp)]; exact h4, h5.mono fun g' hg' => hk g' (by simp [hg'])⟩
theorem LLs.less {w : World} {gs : List Nat} {b b' : Nat} {p : Value} {vs : List Value} (h : LLs w b p gs vs) (hb : b' ≤ b) : LLs w b' p gs vs := by
  cases gs with
  | nil => exact h
  | cons g gs => obtain ⟨v, r, q, h1, h2, h3, h4⟩ := h; exact ⟨v, r, q, h1, h2, by omega, h4⟩
theorem LLs.blk {w : World} : ∀ {gs : List Nat} {b : Nat} {p : Value} {vs : List Value}, LLs w b p gs vs → ∀ g ∈ gs, b ≤ g ∧ ∃ v q, Bk w g #[v, q] 108
  | [], _, _, _, _, g, hg => by simp at hg
  | g :: gs, b, p, vs, ⟨v, r, q, h1, h2, h3, h4, h5⟩, g', hg' => by
    rcases List.mem_cons.1 hg' with rfl | hg'
    · exact ⟨h3, v, q, h4⟩
    · have := LLs.blk h5 g' hg'
      exact ⟨by omega, this.2⟩
theorem LLs.len {w : World} : ∀ {gs : List Nat} {b : Nat} {p : Value} {vs : List Value}, LLs w b p gs vs → vs.length = gs.length
  | [], _, _, _, h => by rw [h.2]; rfl
  | g :: gs, b, p, vs, ⟨v, r, q, h1, h2, h3, h4, h5⟩ => by rw [h1, List.length_cons, List.length_cons, LLs.len h5]
theorem LLs.keep {w w1 : World} {gs : List Nat} {b : Nat} {p : Value} {vs : List Value} (h : LLs w b p gs vs) (hb : Below w.heap.size w w1) : LLs w1 b p gs vs :=
  h.mono fun g hg => by obtain ⟨_, v, q, hk⟩ := h.blk g hg; exact hb.block g hk.lt
/-- Blocks among gs alone were written, and new ones laid. -/
structure Kg (gs : List Nat) (w w' : World) : Prop where
  os : w'.os = w.os
  tape : w'.tape = w.tape
  output : w'.output = w.output
  size : w.heap.size ≤ w'.heap.size
  block : ∀ k, k < w.heap.size → k ∉ gs → w'.heap[k]? = w.heap[k]?
theorem Kg.refl (gs : List Nat) (w : World) : Kg gs w w := ⟨rfl, rfl, rfl, Nat.le_refl _, fun _ _ _ => rfl⟩
theorem Kg.of_below {gs : List Nat} {w w' : World} (h : Below w.heap.size w w') : Kg gs w w' := ⟨h.os, h.tape, h.output, h.size, fun k hk _ => h.block k hk⟩
theorem Kg.trans {gs : List Nat} {a b c : World} (h : Kg gs a b) (k : Kg gs b c) : Kg gs a c :=
  ⟨k.os.trans h.os, k.tape.trans h.tape, k.output.trans h.output, Nat.le_trans h.size k.size, fun i hi hn => (k.block i (Nat.lt_of_lt_of_le hi h.size) hn).trans (h.block i hi hn)⟩
theorem Kg.mono {gs gs' : List Nat} {a b : World} (h : Kg gs a b) (hs : ∀ g ∈ gs, g ∈ gs') : Kg gs' a b := ⟨h.os, h.tape, h.output, h.size, fun i hi hn => h.block i hi fun e => hn (hs i e)⟩
theorem Kg.below {gs : List Nat} {B : Nat} {w a b : World} (h : Kg gs a b) (hw : Below B w a) (hB : B ≤ a.heap.size) (hg : ∀ g ∈ gs, B ≤ g) : Below B w b :=
  ⟨h.os.trans hw.os, h.tape.trans hw.tape, h.output.trans hw.output, Nat.le_trans hw.size h.size, fun k hk => (h.block k (by omega) (fun e => by have := hg k e; omega)).trans (hw.block k hk)⟩
theorem Kg.set {g : Nat} {w : World} (i : Nat) (u : Value) : Kg [g] w (w.setCell ⟨g, i, none⟩ u) :=
  ⟨rfl, rfl, rfl, by simp, fun k _ hn => Below.heap_setCell _ _ _ _ (show k ≠ g from fun e => hn (by simp [e]))⟩
theorem row_not_layer {w : World} {q : Nat} {c d : Array Value} (h : Bk w q c 74) (k : Bk w q d 108) : False := by
  unfold Bk at h k
  rw [h] at k
  cases k
theorem row_not_rows {w : World} {q : Nat} {c d : Array Value} (h : Bk w q c 74) (k : Bk w q d 33) : False := by
  unfold Bk at h k
  rw [h] at k
  cases k
theorem EachO.kg {w w1 : World} {B : Nat} {vs : List Value} {L : List (List Rw)} {gs : List Nat} (h : EachO w B vs L) (hk : Kg gs w w1) (hg : ∀ g ∈ gs, ∃ v q, Bk w g #[v, q] 108) : EachO w1 B vs L :=
  h.mono fun q c hq => hk.block q hq.lt fun e => by obtain ⟨v, z, hb⟩ := hg q e; exact row_not_layer hq hb
end Go.Proofs.YtjkojbafifbdgaaGreat
