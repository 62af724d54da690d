/- Slices of rows and of items in memory: facts. -/
import Derived.Test.YtbmdfmboabfceaaBa1
import Derived.Test.YtbmdfmboabfceaaBase2
import Derived.Test.YtbmdfmboabfceaaFr3
import Derived.Test.YtbmdfmboabfceaaFr8
namespace Go.Proofs.Ytbmdfmboabfceaa
open Go.RowKit

section
variable {α : Type}
theorem flat_len {enc : α → List Value} {k : Nat} (hk : ∀ x, (enc x).length = k) (l : List α) : (l.flatMap enc).length = l.length * k := by
  induction l with
  | nil => simp
  | cons x l ih => rw [List.flatMap_cons, List.length_append, hk, ih, List.length_cons, Nat.add_mul]; omega
theorem flat_get {enc : α → List Value} {k : Nat} (hk : ∀ x, (enc x).length = k) (l : List α) {i : Nat} {x : α} (h : l[i]? = some x) {j : Nat} (hj : j < k) : (l.flatMap enc)[i * k + j]? = (enc x)[j]? := by
  induction l generalizing i with
  | nil => simp at h
  | cons y l ih =>
    cases i with
    | zero =>
      simp at h; subst h
      rw [List.flatMap_cons, Nat.zero_mul, Nat.zero_add, List.getElem?_append_left (by rw [hk]; exact hj)]
    | succ i =>
      have := ih (i := i) (by simpa using h)
      rw [List.flatMap_cons, List.getElem?_append_right (by rw [hk, Nat.add_mul]; omega), hk, ← this]
      congr 1
      rw [Nat.add_mul]; omega
/-- The slice v holds the list l, each of it in k cells. -/
def SlK (enc : α → List Value) (k : Nat) (w : World) (v : Value) (l : List α) : Prop :=
  ∃ a cap, v = .slice a l.length cap ∧ l.length ≤ cap ∧ cap ≤ maxLen ∧ l.length ≤ 2097152 ∧ ∀ i x, l[i]? = some x → ∃ g off, a = some ⟨g, off, none⟩ ∧ g < w.heap.size ∧ ∀ j, j < k → w.cell? ⟨g, off + i * k + j, none⟩ = (enc x)[j]?
theorem SlK.keep {enc : α → List Value} {k : Nat} {w w1 : World} {v : Value} {l : List α} (h : SlK enc k w v l) (hb : Below w.heap.size w w1) : SlK enc k w1 v l := by
  obtain ⟨a, cap, rfl, h1, h2, h3, h4⟩ := h
  refine ⟨a, cap, rfl, h1, h2, h3, fun i x hi => ?_⟩
  obtain ⟨g, off, rfl, hg, c⟩ := h4 i x hi
  exact ⟨g, off, rfl, Nat.lt_of_lt_of_le hg hb.size, fun j hj => by rw [hb.cell (p := ⟨g, _, none⟩) hg]; exact c j hj⟩
theorem SlK.len {enc : α → List Value} {k : Nat} {w : World} {v : Value} {l : List α} (h : SlK enc k w v l) : l.length ≤ 2097152 := by
  obtain ⟨_, _, _, _, _, h3, _⟩ := h; exact h3
/-- The first n of l stand at the head of the cells c. -/
def FillK (enc : α → List Value) (k : Nat) (c : Array Value) (l : List α) (n : Nat) : Prop := ∀ i x, i < n → l[i]? = some x → ∀ j, j < k → c[i * k + j]? = (enc x)[j]?
theorem SlK.of_blk {enc : α → List Value} {k : Nat} {w : World} {g cap : Nat} {c : Array Value} {t : TypeId} {l : List α} (h : Bk w g c t) (hf : FillK enc k c l l.length) (hk : ∀ x, (enc x).length = k) (hc : l.length ≤ cap) (hm : cap ≤ maxLen) (hn : l.length ≤ 2097152) :
    SlK enc k w (.slice (some ⟨g, 0, none⟩) l.length cap) l := by
  refine ⟨_, cap, rfl, hc, hm, hn, fun i x hi => ⟨g, 0, rfl, h.lt, fun j hj => ?_⟩⟩
  have e := hf i x (List.getElem?_eq_some_iff.1 hi).1 hi j hj
  have hj' : j < (enc x).length := by rw [hk]; exact hj
  rw [Nat.zero_add, List.getElem?_eq_getElem hj']
  rw [List.getElem?_eq_getElem hj'] at e
  exact h.cell e
/-- The slice v, made by a call itself, holds the list l. -/
abbrev OwnK (enc : α → List Value) (k : Nat) (t : TypeId) (w : World) (B : Nat) (v : Value) (l : List α) : Prop := w.ownsRow B t k v l.length (l.flatMap enc)
theorem ownK_sl {enc : α → List Value} {k : Nat} {t : TypeId} {w : World} {B : Nat} {v : Value} {l : List α} (h : OwnK enc k t w B v l) (hk : ∀ x, (enc x).length = k) (hl : l.length ≤ 2097152) : SlK enc k w v l := by
  have hh := h
  obtain ⟨_, h2⟩ := h
  rcases h2 with ⟨rfl, h0⟩ | ⟨g, cap, cur, rfl, hg, hb, hc, hm, _, _⟩
  · have : l = [] := List.eq_nil_of_length_eq_zero h0
    subst this
    exact ⟨none, 0, rfl, Nat.le_refl _, by unfold maxLen; omega, by simp, fun i x hi => by simp at hi⟩
  · refine ⟨_, cap, rfl, hc, hm, hl, fun i x hi => ⟨g, 0, rfl, lt_of_block hb, fun j hj => ?_⟩⟩
    have hi' := (List.getElem?_eq_some_iff.1 hi).1
    have : i * k + j < l.length * k := by
      have : (i + 1) * k ≤ l.length * k := Nat.mul_le_mul_right k hi'
      rw [Nat.add_mul] at this; omega
    rw [Nat.zero_add, hh.cellAt _ this, flat_get hk l hi hj]
theorem ownK_nil (enc : α → List Value) (k : Nat) (t : TypeId) (w : World) (B : Nat) : OwnK enc k t w B (.slice none 0 0) [] := ⟨by simp, .inl ⟨rfl, rfl⟩⟩
theorem ownK_of_fill {enc : α → List Value} {k : Nat} {t : TypeId} {w : World} {B g cap : Nat} {c : Array Value} {l : List α} (h : Bk w g c t) (hf : FillK enc k c l l.length) (hk : ∀ x, (enc x).length = k) (hs : c.size = cap * k) (hc : l.length ≤ cap) (hm : cap ≤ maxLen) (hg : B ≤ g) :
    OwnK enc k t w B (.slice (some ⟨g, 0, none⟩) l.length cap) l := by
  refine ⟨flat_len hk l, .inr ⟨g, cap, c, rfl, hg, h, hc, hm, hs, ?_⟩⟩
  apply List.ext_getElem?
  intro i
  by_cases hi : i < l.length * k
  · have hk0 : 0 < k := by
      rcases Nat.eq_zero_or_pos k with e | e
      · subst e; omega
      · exact e
    rw [List.getElem?_take, if_pos hi, Array.getElem?_toList]
    have e : i = i / k * k + i % k := by rw [Nat.mul_comm]; exact (Nat.div_add_mod i k).symm
    have hq : i / k < l.length := Nat.div_lt_of_lt_mul (by rw [Nat.mul_comm]; exact hi)
    have hr : i % k < k := Nat.mod_lt _ hk0
    rw [e, hf _ _ hq (List.getElem?_eq_getElem hq) _ hr, flat_get hk l (List.getElem?_eq_getElem hq) hr]
  · rw [List.getElem?_take, if_neg hi, List.getElem?_eq_none (by rw [flat_len hk]; omega)]
theorem ownK_open {enc : α → List Value} {k : Nat} {t : TypeId} {w : World} {B : Nat} {v : Value} {l : List α} (h : OwnK enc k t w B v l) (hk : ∀ x, (enc x).length = k) : (v = .slice none 0 0 ∧ l = []) ∨
    ∃ g cap c, v = .slice (some ⟨g, 0, none⟩) l.length cap ∧ B ≤ g ∧ Bk w g c t ∧ c.size = cap * k ∧ l.length ≤ cap ∧ cap ≤ maxLen ∧ FillK enc k c l l.length := by
  obtain ⟨h1, ⟨rfl, h2⟩ | ⟨g, cap, cur, rfl, hg, hh, hc, hm, hs, ht⟩⟩ := h
  · exact .inl ⟨rfl, List.eq_nil_of_length_eq_zero h2⟩
  · refine .inr ⟨g, cap, cur, rfl, hg, hh, hs, hc, hm, fun i x hi hx j hj => ?_⟩
    have : i * k + j < l.length * k := by
      have : (i + 1) * k ≤ l.length * k := Nat.mul_le_mul_right k hi
      rw [Nat.add_mul] at this; omega
    rw [← flat_get hk l hx hj, ← ht, List.getElem?_take, if_pos this, Array.getElem?_toList]
theorem ownK_at {t : TypeId} {k : Nat} {w w1 : World} {B : Nat} {v : Value} {n : Nat} {xs : List Value} (h : w.ownsRow B t k v n xs) (hk : ∀ b, v.ownBlock = some b → w1.heap[b]? = w.heap[b]?) : w1.ownsRow B t k v n xs := by
  obtain ⟨h1, h2⟩ := h
  refine ⟨h1, ?_⟩
  rcases h2 with h2 | ⟨g, cap, cur, rfl, hg, hh, r⟩
  · exact .inl h2
  · exact .inr ⟨g, cap, cur, rfl, hg, by rw [hk g (by simp [Value.ownBlock])]; exact hh, r⟩
theorem ownK_lt {t : TypeId} {k : Nat} {w : World} {B : Nat} {v : Value} {n : Nat} {xs : List Value} (h : w.ownsRow B t k v n xs) (b : Nat) (e : v.ownBlock = some b) : b < w.heap.size := by
  obtain ⟨h1, ⟨rfl, h2⟩ | ⟨g, cap, cur, rfl, hg, hh, _⟩⟩ := h
  · simp [Value.ownBlock] at e
  · simp [Value.ownBlock] at e; subst e; exact lt_of_block hh
theorem ownK_base {t : TypeId} {k : Nat} {w : World} {B : Nat} {v : Value} {n : Nat} {xs : List Value} (h : w.ownsRow B t k v n xs) (b : Nat) (e : v.ownBlock = some b) : B ≤ b := by
  obtain ⟨h1, ⟨rfl, h2⟩ | ⟨g, cap, cur, rfl, hg, hh, _⟩⟩ := h
  · simp [Value.ownBlock] at e
  · simp [Value.ownBlock] at e; subst e; exact hg
theorem ownK_under {t : TypeId} {k : Nat} {w w1 : World} {B N : Nat} {v : Value} {n : Nat} {xs : List Value} (h : w.ownsRow B t k v n xs) (hb : Below N w w1) (hk : ∀ b, v.ownBlock = some b → b < N) : w1.ownsRow B t k v n xs :=
  ownK_at h fun b e => hb.block b (hk b e)
theorem ownK_beside {t : TypeId} {k : Nat} {w w1 : World} {B g : Nat} {v : Value} {n : Nat} {xs : List Value} (h : w.ownsRow B t k v n xs) (hb : Bx g w w1) (hk : ∀ b, v.ownBlock = some b → b ≠ g) : w1.ownsRow B t k v n xs :=
  ownK_at h fun b e => hb.block b (ownK_lt h b e) (hk b e)
end

abbrev rowC (r : Rw) : List Value := [.int .i64 r.1.1.1, .int .i64 r.1.1.2, .int .i64 r.1.2.1, .int .i64 r.1.2.2, .int .i64 r.2]
abbrev itC (r : It) : List Value := [.int .i64 r.1.1, .int .i64 r.1.2, .int .i64 r.2]
/-- A row, an item, as a value. -/
abbrev rv (k v a b d : Int) : Value := .agg #[.int .i64 k, .int .i64 v, .int .i64 a, .int .i64 b, .int .i64 d]
abbrev iv (k v d : Int) : Value := .agg #[.int .i64 k, .int .i64 v, .int .i64 d]
theorem rowC_len (x : Rw) : (rowC x).length = 5 := rfl
theorem itC_len (x : It) : (itC x).length = 3 := rfl
abbrev Rs (w : World) (v : Value) (l : List Rw) : Prop := SlK rowC 5 w v l
abbrev Is (w : World) (v : Value) (l : List It) : Prop := SlK itC 3 w v l
abbrev OwnR (w : World) (B : Nat) (v : Value) (l : List Rw) : Prop := OwnK rowC 5 33 w B v l
abbrev OwnI (w : World) (B : Nat) (v : Value) (l : List It) : Prop := OwnK itC 3 64 w B v l
theorem OwnR.rs {w : World} {B : Nat} {v : Value} {l : List Rw} (h : OwnR w B v l) (hl : l.length ≤ 2097152) : Rs w v l := ownK_sl h rowC_len hl
theorem OwnI.is {w : World} {B : Nat} {v : Value} {l : List It} (h : OwnI w B v l) (hl : l.length ≤ 2097152) : Is w v l := ownK_sl h itC_len hl
/-- Rows opened: five cells a row. -/
theorem Rs.open {w : World} {v : Value} {l : List Rw} (h : Rs w v l) : ∃ a cap, v = .slice a l.length cap ∧ l.length ≤ cap ∧ cap ≤ maxLen ∧ l.length ≤ 2097152 ∧
    ∀ i, i < l.length → ∃ g off K V A B D, a = some ⟨g, off, none⟩ ∧ g < w.heap.size ∧ l[i]? = some (((K, V), (A, B)), D) ∧ w.cell? ⟨g, off + i * 5, none⟩ = some (.int .i64 K) ∧ w.cell? ⟨g, off + i * 5 + 1, none⟩ = some (.int .i64 V) ∧
      w.cell? ⟨g, off + i * 5 + 2, none⟩ = some (.int .i64 A) ∧ w.cell? ⟨g, off + i * 5 + 3, none⟩ = some (.int .i64 B) ∧ w.cell? ⟨g, off + i * 5 + 4, none⟩ = some (.int .i64 D) := by
  obtain ⟨a, cap, h0, h1, h2, h3, h4⟩ := h
  refine ⟨a, cap, h0, h1, h2, h3, fun i hi => ?_⟩
  obtain ⟨g, off, ha, hg, c⟩ := h4 i l[i] (List.getElem?_eq_getElem hi)
  exact ⟨g, off, _, _, _, _, _, ha, hg, List.getElem?_eq_getElem hi, c 0 (by omega), c 1 (by omega), c 2 (by omega), c 3 (by omega), c 4 (by omega)⟩
theorem Is.open {w : World} {v : Value} {l : List It} (h : Is w v l) : ∃ a cap, v = .slice a l.length cap ∧ l.length ≤ cap ∧ cap ≤ maxLen ∧ l.length ≤ 2097152 ∧
    ∀ i, i < l.length → ∃ g off K V D, a = some ⟨g, off, none⟩ ∧ g < w.heap.size ∧ l[i]? = some ((K, V), D) ∧ w.cell? ⟨g, off + i * 3, none⟩ = some (.int .i64 K) ∧ w.cell? ⟨g, off + i * 3 + 1, none⟩ = some (.int .i64 V) ∧ w.cell? ⟨g, off + i * 3 + 2, none⟩ = some (.int .i64 D) := by
  obtain ⟨a, cap, h0, h1, h2, h3, h4⟩ := h
  refine ⟨a, cap, h0, h1, h2, h3, fun i hi => ?_⟩
  obtain ⟨g, off, ha, hg, c⟩ := h4 i l[i] (List.getElem?_eq_getElem hi)
  exact ⟨g, off, _, _, _, ha, hg, List.getElem?_eq_getElem hi, c 0 (by omega), c 1 (by omega), c 2 (by omega)⟩
theorem Bk.five {w : World} {k : Nat} {x0 x1 x2 x3 x4 : Value} {t : TypeId} (h : Bk w k #[x0, x1, x2, x3, x4] t) :
    w.cell? ⟨k, 0, none⟩ = some x0 ∧ w.cell? ⟨k, 1, none⟩ = some x1 ∧ w.cell? ⟨k, 2, none⟩ = some x2 ∧ w.cell? ⟨k, 3, none⟩ = some x3 ∧ w.cell? ⟨k, 4, none⟩ = some x4 := by
  unfold Bk at h; simp [World.cell?, h]
theorem Bk.three {w : World} {k : Nat} {x0 x1 x2 : Value} {t : TypeId} (h : Bk w k #[x0, x1, x2] t) :
    w.cell? ⟨k, 0, none⟩ = some x0 ∧ w.cell? ⟨k, 1, none⟩ = some x1 ∧ w.cell? ⟨k, 2, none⟩ = some x2 := by
  unfold Bk at h; simp [World.cell?, h]
end Go.Proofs.Ytbmdfmboabfceaa
