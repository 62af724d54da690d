import Derived.Test.YtldejkhemkjcgaaGreatDoorGb1
import Derived.Test.YtldejkhemkjcgaaGreatDoorGa6
import Derived.Test.YtldejkhemkjcgaaGreatDoorGa8
import Derived.Test.YtldejkhemkjcgaaGreatDoorGb3
import Derived.Deep.RegionHeld3
import Derived.Test.YtldejkhemkjcgaaGreatDoorGj5
import Derived.Deep.AppendLies
import Derived.Deep.RegionLaw
import Derived.Test.YtldejkhemkjcgaaGreatDoorGl1
namespace Go.Proofs.YtldejkhemkjcgaaGreatDoor
def gt (l : List (Int × Int)) (i : Nat) : Int × Int := l.getD i (0, 0)
def swapT (l : List (Int × Int)) (i j : Nat) : List (Int × Int) := (l.set i (gt l j)).set j (gt l i)
def leT (a b : Int × Int) : Prop := ltT b a = false
theorem leT_iff {a b : Int × Int} : leT a b ↔ a.1 < b.1 ∨ (a.1 = b.1 ∧ a.2 ≤ b.2) := by
  unfold leT ltT; simp only [decide_eq_false_iff_not]; omega
theorem ltT_iffP {a b : Int × Int} : ltT a b = true ↔ a.1 < b.1 ∨ (a.1 = b.1 ∧ a.2 < b.2) := by
  unfold ltT; simp only [decide_eq_true_eq]
theorem leT_refl (a : Int × Int) : leT a a := by rw [leT_iff]; omega
theorem leT_trans {a b c : Int × Int} (h : leT a b) (k : leT b c) : leT a c := by rw [leT_iff] at *; omega
theorem leT_of_lt {a b : Int × Int} (h : ltT a b = true) : leT a b := by rw [leT_iff]; rw [ltT_iffP] at h; omega
theorem gt_mem {l : List (Int × Int)} {k : Nat} (h : k < l.length) : gt l k ∈ l := by
  unfold gt; rw [List.getD_eq_getElem?_getD, List.getElem?_eq_getElem h]; exact List.getElem_mem h
theorem mem_gt {l : List (Int × Int)} {x : Int × Int} (h : x ∈ l) : ∃ k, k < l.length ∧ gt l k = x := by
  obtain ⟨k, hk, e⟩ := List.getElem_of_mem h
  exact ⟨k, hk, by unfold gt; rw [List.getD_eq_getElem?_getD, List.getElem?_eq_getElem hk, e]; rfl⟩
theorem gt_take {l : List (Int × Int)} {n k : Nat} (h : k < n) : gt (l.take n) k = gt l k := by
  unfold gt; rw [List.getD_eq_getElem?_getD, List.getD_eq_getElem?_getD, List.getElem?_take, if_pos h]
theorem gt_app1 {l : List (Int × Int)} {x : Int × Int} {k : Nat} (h : k < l.length) : gt (l ++ [x]) k = gt l k := by
  unfold gt; rw [List.getD_eq_getElem?_getD, List.getD_eq_getElem?_getD, List.getElem?_append_left h]
theorem swap_len (l : List (Int × Int)) (i j : Nat) : (swapT l i j).length = l.length := by simp [swapT]
theorem swap_gt {l : List (Int × Int)} {i j : Nat} (hi : i < l.length) (hj : j < l.length) (k : Nat) : gt (swapT l i j) k = if k = j then gt l i else if k = i then gt l j else gt l k := by
  unfold swapT
  generalize hx : gt l i = x
  generalize hy : gt l j = y
  unfold gt
  simp only [List.getD_eq_getElem?_getD, List.getElem?_set, List.length_set]
  by_cases h1 : k = j
  · subst h1; simp [hj]
  · simp only [if_neg h1, if_neg (Ne.symm h1)]
    by_cases h2 : k = i
    · subst h2; simp [hi]
    · simp only [if_neg h2, if_neg (Ne.symm h2)]
theorem swap_mem {l : List (Int × Int)} {i j : Nat} (hi : i < l.length) (hj : j < l.length) (x : Int × Int) : x ∈ swapT l i j ↔ x ∈ l := by
  constructor
  · intro h
    obtain ⟨k, hk, e⟩ := mem_gt h
    rw [swap_len] at hk
    rw [swap_gt hi hj] at e
    split at e
    · rw [← e]; exact gt_mem hi
    · split at e
      · rw [← e]; exact gt_mem hj
      · rw [← e]; exact gt_mem hk
  · intro h
    obtain ⟨k, hk, e⟩ := mem_gt h
    have hl := swap_len l i j
    have g : ∀ q, q < l.length → gt (swapT l i j) q ∈ swapT l i j := fun q hq => gt_mem (by omega)
    by_cases h1 : k = i
    · have h := g j hj
      have q : gt (swapT l i j) j = x := by rw [swap_gt hi hj, if_pos rfl, ← h1, e]
      rw [q] at h; exact h
    · by_cases h2 : k = j
      · have h := g i hi
        have q : gt (swapT l i j) i = x := by
          rw [swap_gt hi hj]
          by_cases h3 : i = j
          · rw [if_pos h3, h3, ← h2, e]
          · rw [if_neg h3, if_pos rfl, ← h2, e]
        rw [q] at h; exact h
      · have h := g k hk
        have q : gt (swapT l i j) k = x := by rw [swap_gt hi hj, if_neg h2, if_neg h1, e]
        rw [q] at h; exact h
def HeapLow (l : List (Int × Int)) (n i0 : Nat) : Prop := ∀ m, 0 < m → m < n → i0 ≤ (m - 1) / 2 → leT (gt l ((m - 1) / 2)) (gt l m)
structure DnI (l c : List (Int × Int)) (i0 n i : Nat) : Prop where
  len : c.length = l.length
  mem : ∀ x, x ∈ c ↔ x ∈ l
  far : ∀ k, n ≤ k → gt c k = gt l k
  d1 : ∀ m, 0 < m → m < n → i0 ≤ (m - 1) / 2 → (m - 1) / 2 ≠ i → leT (gt c ((m - 1) / 2)) (gt c m)
  d2 : i0 < i → ∀ m, 0 < m → m < n → (m - 1) / 2 = i → leT (gt c ((i - 1) / 2)) (gt c m)
  ge : i0 ≤ i
  pge : i0 < i → i0 ≤ (i - 1) / 2
theorem DnI.start {l : List (Int × Int)} {i0 n : Nat} (h : HeapLow l n (i0 + 1)) : DnI l l i0 n i0 where
  len := rfl
  mem _ := Iff.rfl
  far _ _ := rfl
  d1 m h0 hm hi hne := h m h0 hm (by omega)
  d2 h := by omega
  ge := Nat.le_refl _
  pge h := by omega
def Least2 (c : List (Int × Int)) (n i j : Nat) : Prop := 2 * i + 1 < n ∧ j < n ∧ (j = 2 * i + 1 ∨ j = 2 * i + 2) ∧ ∀ m, 0 < m → m < n → (m - 1) / 2 = i → leT (gt c j) (gt c m)
theorem DnI.step {l c : List (Int × Int)} {i0 n i j : Nat} (h : DnI l c i0 n i) (hn : n ≤ l.length) (hj : Least2 c n i j) (hl : ltT (gt c j) (gt c i) = true) : DnI l (swapT c i j) i0 n j := by
  obtain ⟨h1, h2, h3, h4⟩ := hj
  have hlen := h.len
  have hi' : i < c.length := by omega
  have hj' : j < c.length := by omega
  have hge := h.ge
  have e := swap_gt hi' hj'
  have hij : i ≠ j := by omega
  refine ⟨by rw [swap_len]; exact hlen, fun x => by rw [swap_mem hi' hj']; exact h.mem x, fun k hk => by rw [e, if_neg (by omega), if_neg (by omega)]; exact h.far k hk, fun m h0 hm hi hne => ?_, fun hlt m h0 hm hp => ?_, by omega, fun _ => by omega⟩
  · rw [e, e]
    by_cases c1 : (m - 1) / 2 = i
    · rw [if_neg (by omega), if_pos c1]
      by_cases c2 : m = j
      · rw [if_pos c2]; exact leT_of_lt hl
      · rw [if_neg c2, if_neg (by omega)]; exact h4 m h0 hm c1
    · rw [if_neg (by omega), if_neg (by omega)]
      by_cases c2 : m = j
      · omega
      · rw [if_neg c2]
        by_cases c3 : m = i
        · rw [if_pos c3]
          have := h.d2 (by omega) j (by omega) h2 (by omega)
          rw [c3]; exact this
        · rw [if_neg c3]; exact h.d1 m h0 hm hi c1
  · rw [e, e]
    have c1 : (j - 1) / 2 = i := by omega
    rw [c1, if_neg hij, if_pos rfl, if_neg (by omega), if_neg (by omega)]
    have := h.d1 m h0 hm (by omega) (by omega)
    rw [hp] at this; exact this
structure UpI (l c : List (Int × Int)) (j : Nat) : Prop where
  len : c.length = l.length
  mem : ∀ x, x ∈ c ↔ x ∈ l
  lt : j < l.length
  u1 : ∀ m, 0 < m → m < l.length → m ≠ j → leT (gt c ((m - 1) / 2)) (gt c m)
  u2 : 0 < j → ∀ m, 0 < m → m < l.length → (m - 1) / 2 = j → leT (gt c ((j - 1) / 2)) (gt c m)
theorem UpI.start {l : List (Int × Int)} {x : Int × Int} (h : HeapLow l l.length 0) : UpI (l ++ [x]) (l ++ [x]) l.length where
  len := rfl
  mem _ := Iff.rfl
  lt := by simp
  u1 m h0 hm hne := by
    have hm' : m < l.length := by simp at hm; omega
    rw [gt_app1 (by omega), gt_app1 hm']; exact h m h0 hm' (by omega)
  u2 h0 m h1 hm hp := by simp at hm; omega
theorem UpI.step {l c : List (Int × Int)} {j : Nat} (h : UpI l c j) (hj0 : 0 < j) (hl : ltT (gt c j) (gt c ((j - 1) / 2)) = true) : UpI l (swapT c ((j - 1) / 2) j) ((j - 1) / 2) := by
  have hlen := h.len
  have hlt := h.lt
  have hi' : (j - 1) / 2 < c.length := by omega
  have hj' : j < c.length := by omega
  have e := swap_gt hi' hj'
  have hc := leT_of_lt hl
  refine ⟨by rw [swap_len]; exact hlen, fun x => by rw [swap_mem hi' hj']; exact h.mem x, by omega, fun m h0 hm hne => ?_, fun h0 m h1 hm hp => ?_⟩
  · rw [e, e]
    by_cases c1 : m = j
    · rw [c1, if_neg (by omega), if_pos rfl, if_pos rfl]; exact hc
    · rw [if_neg c1, if_neg hne]
      by_cases c2 : (m - 1) / 2 = j
      · rw [if_pos c2]; exact h.u2 hj0 m h0 hm c2
      · rw [if_neg c2]
        by_cases c3 : (m - 1) / 2 = (j - 1) / 2
        · rw [if_pos c3]
          have := h.u1 m h0 hm c1
          rw [c3] at this
          exact leT_trans hc this
        · rw [if_neg c3]; exact h.u1 m h0 hm c1
  · rw [e, e]
    have hp0 : leT (gt c (((j - 1) / 2 - 1) / 2)) (gt c ((j - 1) / 2)) := h.u1 ((j - 1) / 2) h0 (by omega) (by omega)
    rw [if_neg (by omega), if_neg (by omega)]
    by_cases c1 : m = j
    · rw [if_pos c1]; exact hp0
    · rw [if_neg c1, if_neg (by omega)]
      have := h.u1 m h1 hm c1
      rw [hp] at this
      exact leT_trans hp0 this
end Go.Proofs.YtldejkhemkjcgaaGreatDoor
namespace Go.Proofs.YtldejkhemkjcgaaGreatDoor
open Go.RowKit
end Go.Proofs.YtldejkhemkjcgaaGreatDoor
namespace Go.Proofs.YtldejkhemkjcgaaGreatDoor
open Go.RowKit
attribute [local go_sem ↓] Go.wp_at_zero Go.wp_at_succ
theorem Fill.swap {c : Array Value} {l : List (Int × Int)} {i j : Nat} (h : Fill c l l.length) (hi : i < l.length) (hj : j < l.length) (hs : l.length * 2 ≤ c.size) :
    Fill ((((c.setIfInBounds (i * 2) (.int .i64 (tA l j))).setIfInBounds (i * 2 + 1) (.int .i64 (tB l j))).setIfInBounds (j * 2) (.int .i64 (tA l i))).setIfInBounds (j * 2 + 1) (.int .i64 (tB l i))) (swapT l i j) l.length := by
  have h1 := Fill.set h hi rfl hs (tA l j) (tB l j)
  exact Fill.set (n := l.length) h1 hj (by simp) (by simpa using hs) (tA l i) (tB l i)
end Go.Proofs.YtldejkhemkjcgaaGreatDoor
namespace Go.Proofs.YtldejkhemkjcgaaGreatDoor
open Go.RowKit
def HpM (w : World) (hb g cap : Nat) (l : List (Int × Int)) : Prop :=
  Bk w hb #[.slice (some ⟨g, 0, none⟩) l.length cap] 227 ∧ (∃ c : Array Value, Bk w g c 41 ∧ Fill c l l.length ∧ c.size = cap * 2) ∧ l.length ≤ cap ∧ cap ≤ maxLen ∧ hb ≠ g
theorem HpM.keep {w w1 : World} {hb g cap : Nat} {l : List (Int × Int)} (h : HpM w hb g cap l) (hx : Below w.heap.size w w1) : HpM w1 hb g cap l := by
  obtain ⟨h1, ⟨c, h2, h3, h4⟩, h5⟩ := h
  exact ⟨h1.keep hx, ⟨c, h2.keep hx, h3, h4⟩, h5⟩
theorem HpM.swap {w w1 : World} {hb g cap : Nat} {l : List (Int × Int)} {i j : Nat} {c' : Array Value} (h : HpM w hb g cap l) (hb1 : Bk w1 g c' 41) (hf : Fill c' (swapT l i j) l.length) (hs : c'.size = cap * 2) (hx : Bx g w w1) : HpM w1 hb g cap (swapT l i j) := by
  obtain ⟨h1, _, h3, h4, h5⟩ := h
  refine ⟨?_, ⟨c', hb1, by rw [swap_len]; exact hf, hs⟩, by rw [swap_len]; exact h3, h4, h5⟩
  unfold Bk; rw [hx.block hb h1.lt h5, swap_len]; exact h1
end Go.Proofs.YtldejkhemkjcgaaGreatDoor
namespace Go.Proofs.YtldejkhemkjcgaaGreatDoor
open Go.RowKit
end Go.Proofs.YtldejkhemkjcgaaGreatDoor
namespace Go.Proofs.YtldejkhemkjcgaaGreatDoor
open Go.RowKit
structure HF (hb : Nat) (w w' : World) : Prop where
  os : w'.os = w.os
  tape : w'.tape = w.tape
  output : w'.output = w.output
  size : w.heap.size ≤ w'.heap.size
  keep : ∀ k, k < w.heap.size → k ≠ hb → arrOf w hb ≠ some k → w'.heap[k]? = w.heap[k]?
  arr : arrOf w' hb = arrOf w hb ∨ ∃ q, arrOf w' hb = some q ∧ w.heap.size ≤ q ∧ q < w'.heap.size
theorem HF.refl (hb : Nat) (w : World) : HF hb w w := ⟨rfl, rfl, rfl, Nat.le_refl _, fun _ _ _ _ => rfl, .inl rfl⟩
theorem HF.trans {hb : Nat} {A B C : World} (h : HF hb A B) (k : HF hb B C) : HF hb A C where
  os := k.os.trans h.os
  tape := k.tape.trans h.tape
  output := k.output.trans h.output
  size := Nat.le_trans h.size k.size
  keep i hi hm ha := by
    rw [← h.keep i hi hm ha]
    refine k.keep i (Nat.lt_of_lt_of_le hi h.size) hm ?_
    rcases h.arr with e | ⟨q, e, hq, _⟩
    · rw [e]; exact ha
    · rw [e]; intro e'; cases e'; omega
  arr := by
    rcases k.arr with e | ⟨q, e, hq, hq'⟩
    · rcases h.arr with e1 | ⟨q, e1, hq, hq'⟩
      · exact .inl (e.trans e1)
      · exact .inr ⟨q, e.trans e1, hq, Nat.lt_of_lt_of_le hq' k.size⟩
    · exact .inr ⟨q, e, Nat.le_trans h.size hq, hq'⟩
theorem HF.below {hb : Nat} {W W' : World} (h : Below W.heap.size W W') (hm : hb < W.heap.size) : HF hb W W' :=
  ⟨h.os, h.tape, h.output, h.size, fun k hk _ _ => h.block k hk, .inl (arrOf_block (h.block hb hm))⟩
theorem arrOf_bk {w : World} {hb : Nat} {v : Value} {t : TypeId} (h : Bk w hb #[v] t) : arrOf w hb = v.ownBlock := by
  unfold arrOf; rw [h.cell (i := 0) (v := v) rfl]; rfl
theorem HF.arrBx {hb g : Nat} {w w' : World} {v : Value} {t : TypeId} (h : Bx g w w') (hbk : Bk w hb #[v] t) (hv : v.ownBlock = some g) (hne : hb ≠ g) : HF hb w w' := by
  have e := arrOf_bk hbk
  refine ⟨h.os, h.tape, h.output, h.size, fun k hk _ ha => h.block k hk (fun e' => ha (by rw [e, hv, e'])), .inl (arrOf_block (h.block hb hbk.lt hne))⟩
theorem HF.bk {hb : Nat} {w w' : World} {k : Nat} {c : Array Value} {t : TypeId} (h : HF hb w w') (hk : Bk w k c t) (hm : k ≠ hb) (ha : arrOf w hb ≠ some k) : Bk w' k c t := by
  unfold Bk; rw [h.keep k hk.lt hm ha]; exact hk
def Hp (w : World) (hb : Nat) (l : List (Int × Int)) : Prop := ∃ v : Value, Bk w hb #[v] 227 ∧ Own w 0 v l ∧ v.ownBlock ≠ some hb
theorem Hp.keep {w w1 : World} {hb : Nat} {l : List (Int × Int)} (h : Hp w hb l) (hx : Below w.heap.size w w1) : Hp w1 hb l := by
  obtain ⟨v, h1, h2, h3⟩ := h
  exact ⟨v, h1.keep hx, own_keep h2 hx, h3⟩
theorem Hp.open {w : World} {hb : Nat} {l : List (Int × Int)} (h : Hp w hb l) : (Bk w hb #[.slice none 0 0] 227 ∧ l = []) ∨ ∃ g cap, HpM w hb g cap l := by
  obtain ⟨v, h1, h2, h3⟩ := h
  rcases own_open h2 with ⟨rfl, rfl⟩ | ⟨g, cap, c, rfl, _, hb1, hs, hc, hm, hf⟩
  · exact .inl ⟨h1, rfl⟩
  · exact .inr ⟨g, cap, h1, ⟨c, hb1, hf, hs⟩, hc, hm, fun e => h3 (by rw [e]; rfl)⟩
theorem HpM.hp {w : World} {hb g cap : Nat} {l : List (Int × Int)} (h : HpM w hb g cap l) : Hp w hb l := by
  obtain ⟨h1, ⟨c, h2, h3, h4⟩, h5, h6, h7⟩ := h
  exact ⟨_, h1, own_of_fill h2 h3 h4 h5 h6 (Nat.zero_le _), fun e => h7 (by simpa [Value.ownBlock] using e.symm)⟩
theorem HpM.frame {w w1 : World} {hb g cap : Nat} {l : List (Int × Int)} (h : HpM w hb g cap l) (hx : Bx g w w1) : HF hb w w1 := HF.arrBx hx h.1 rfl h.2.2.2.2
theorem HF.grow {m : Nat} {W W1 : World} {v u : Value} {t : TypeId} (hb : Bk W m #[v] t) (hg : W.grownBy W1 v.ownBlock) (hv : v.ownBlock ≠ some m) (hu : u.ownBlock = v.ownBlock ∨ ∃ q, u.ownBlock = some q ∧ W.heap.size ≤ q ∧ q < W1.heap.size) :
    Bk (W1.setCell ⟨m, 0, none⟩ u) m #[u] t ∧ HF m W (W1.setCell ⟨m, 0, none⟩ u) := by
  have hm := hb.lt
  have e0 : arrOf W m = v.ownBlock := arrOf_bk hb
  have hb1 : Bk W1 m #[v] t := by
    unfold Bk; rw [hg.block m hm (fun e => hv e.symm)]; exact hb
  have hb2 := hb1.set 0 u
  have hz : (W1.setCell ⟨m, 0, none⟩ u).heap.size = W1.heap.size := by simp
  refine ⟨hb2, ?_, ?_, ?_, by rw [hz]; exact hg.size, fun k hk hkm ha => ?_, ?_⟩
  · exact hg.os
  · exact hg.tape
  · exact hg.output
  · rw [Below.heap_setCell _ _ _ _ (show k ≠ (⟨m, 0, none⟩ : Addr).block from hkm), hg.block k hk (fun e => ha (by rw [e0, e]))]
  · rw [arrOf_bk hb2, e0, hz]; exact hu
section
variable {P : Program}
end
end Go.Proofs.YtldejkhemkjcgaaGreatDoor
namespace Go.Proofs.YtldejkhemkjcgaaGreatDoor
open Go.RowKit
end Go.Proofs.YtldejkhemkjcgaaGreatDoor
namespace Go.Proofs.YtldejkhemkjcgaaGreatDoor
def jnT (s t : Int × Int) : Int × Int := (max s.1 t.1, max s.2 t.2)
structure PtI (l : List Rw) (n : Nat) (next : List (Int × Int)) : Prop where
  le : n ≤ (jtimes l).length
  inn : ∀ x ∈ next, x ∈ jtimes l
  rows : ∀ r ∈ l, r.1.2 ∈ (jtimes l).take n ∨ r.1.2 ∈ next
  joins : ∀ p ∈ (jtimes l).take n, ∀ q ∈ (jtimes l).take n, jnT p q ∈ (jtimes l).take n ∨ jnT p q ∈ next
  late : ∀ p ∈ (jtimes l).take n, ∀ x ∈ next, leT p x
theorem jt_self {l : List Rw} (h : rokB l = true) {r : Rw} (hr : r ∈ l) : r.1.2 ∈ jtimes l := by
  rw [jtimes_mem, inJ_iff]
  refine ⟨?_, r, hr, r, hr, by omega, by omega⟩
  have := rok_at h hr
  exact rw_time this
theorem PtI.start {l : List Rw} {next : List (Int × Int)} (h : rokB l = true) (hm : ∀ x, x ∈ next ↔ x ∈ l.map fun r => r.1.2) : PtI l 0 next where
  le := Nat.zero_le _
  inn x hx := by
    obtain ⟨r, hr, rfl⟩ := List.mem_map.1 ((hm x).1 hx)
    exact jt_self h hr
  rows r hr := .inr ((hm _).2 (List.mem_map_of_mem hr))
  joins p hp := by simp at hp
  late p hp := by simp at hp
theorem leT_join_l (s t : Int × Int) : leT s (jnT s t) := by rw [leT_iff]; simp only [jnT]; omega
theorem leT_join_r (s t : Int × Int) : leT t (jnT s t) := by rw [leT_iff]; simp only [jnT]; omega
theorem PtI.ahead {l : List Rw} {n : Nat} {next : List (Int × Int)} (h : PtI l n next) {t : Int × Int} (hmin : ∀ x ∈ next, leT t x) {y : Int × Int} (hy : y ∈ jtimes l) (hlt : ltT y t = true) : y ∈ (jtimes l).take n := by
  rw [jtimes_mem, inJ_iff] at hy
  obtain ⟨_, p, hp, q, hq, e1, e2⟩ := hy
  have hno : ∀ x ∈ next, ¬ leT x y := fun x hx e => by
    have := leT_trans (hmin x hx) e
    unfold leT at this; rw [this] at hlt; cases hlt
  have hj : jnT p.1.2 q.1.2 = y := Prod.ext e1 e2
  have h1 : p.1.2 ∈ (jtimes l).take n := (h.rows p hp).resolve_right fun hx => hno _ hx (by rw [← hj]; exact leT_join_l _ _)
  have h2 : q.1.2 ∈ (jtimes l).take n := (h.rows q hq).resolve_right fun hx => hno _ hx (by rw [← hj]; exact leT_join_r _ _)
  have h3 := h.joins _ h1 _ h2
  rw [hj] at h3
  exact h3.resolve_right fun hx => hno _ hx (leT_refl _)
theorem srt_lt {l : List (Int × Int)} (h : l.Pairwise fun p q => ltT p q = true) {i j : Nat} (hij : i < j) (hj : j < l.length) : ltT (gt l i) (gt l j) = true := by
  rw [List.pairwise_iff_getElem] at h
  have := h i j (by omega) hj hij
  simpa [gt, show i < l.length from by omega, hj] using this
theorem ltT_no {t : Int × Int} : ltT t t = false := by rw [Bool.eq_false_iff]; intro e; rw [ltT_iffP] at e; omega
theorem take_mem_gt {l : List (Int × Int)} {n : Nat} {x : Int × Int} (hn : n ≤ l.length) : x ∈ l.take n ↔ ∃ j, j < n ∧ gt l j = x := by
  constructor
  · intro h
    obtain ⟨k, hk, e⟩ := mem_gt h
    rw [List.length_take] at hk
    exact ⟨k, by omega, by rw [← gt_take (n := n) (by omega)]; exact e⟩
  · rintro ⟨j, hj, rfl⟩
    rw [← gt_take hj]
    exact gt_mem (by rw [List.length_take]; omega)
theorem PtI.next {l : List Rw} {n : Nat} {next : List (Int × Int)} (h : PtI l n next) {t : Int × Int} (ht : t ∈ next) (hmin : ∀ x ∈ next, leT t x) (hnew : t ∉ (jtimes l).take n) : n < (jtimes l).length ∧ gt (jtimes l) n = t := by
  obtain ⟨j, hj, e⟩ := mem_gt (h.inn t ht)
  have hs := jtimes_srt l
  have hnj : n ≤ j := by
    by_cases hq : n ≤ j
    · exact hq
    · exact absurd ((take_mem_gt h.le).2 ⟨j, by omega, e⟩) hnew
  by_cases hq : n = j
  · exact ⟨by omega, by rw [hq]; exact e⟩
  · exfalso
    have hlt := srt_lt hs (i := n) (j := j) (by omega) hj
    rw [e] at hlt
    have := h.ahead hmin (gt_mem (by omega)) hlt
    obtain ⟨k, hk, e2⟩ := (take_mem_gt h.le).1 this
    have h3 := srt_lt hs hk (by omega)
    rw [e2, ltT_no] at h3; cases h3
theorem PtI.last {l : List Rw} {n : Nat} {next : List (Int × Int)} (h : PtI l n next) {t : Int × Int} (ht : t ∈ next) (hold : t ∈ (jtimes l).take n) : 0 < n ∧ gt (jtimes l) (n - 1) = t := by
  obtain ⟨k, hk, e⟩ := (take_mem_gt h.le).1 hold
  refine ⟨by omega, ?_⟩
  have h1 := h.late (gt (jtimes l) (n - 1)) ((take_mem_gt h.le).2 ⟨n - 1, by omega, rfl⟩) t ht
  by_cases hq : k = n - 1
  · rw [← hq]; exact e
  · have h2 := srt_lt (jtimes_srt l) (i := k) (j := n - 1) (by omega) (by have := h.le; omega)
    rw [e] at h2
    unfold leT at h1; rw [h1] at h2; cases h2
theorem PtI.skip {l : List Rw} {n : Nat} {next c : List (Int × Int)} (h : PtI l n next) {t : Int × Int} (hold : t ∈ (jtimes l).take n) (hm : ∀ x, x ∈ next ↔ x = t ∨ x ∈ c) : PtI l n c where
  le := h.le
  inn x hx := h.inn x ((hm x).2 (.inr hx))
  rows r hr := by
    rcases h.rows r hr with h1 | h1
    · exact .inl h1
    · rcases (hm _).1 h1 with e | e
      · exact .inl (by rw [e]; exact hold)
      · exact .inr e
  joins p hp q hq := by
    rcases h.joins p hp q hq with h1 | h1
    · exact .inl h1
    · rcases (hm _).1 h1 with e | e
      · exact .inl (by rw [e]; exact hold)
      · exact .inr e
  late p hp x hx := h.late p hp x ((hm x).2 (.inr hx))
end Go.Proofs.YtldejkhemkjcgaaGreatDoor
namespace Go.Proofs.YtldejkhemkjcgaaGreatDoor
open Go.RowKit Go.Shelf
structure ItS (B m : Nat) (A A' : World) : Prop where
  os : A'.os = A.os
  tape : A'.tape = A.tape
  output : A'.output = A.output
  size : A.heap.size ≤ A'.heap.size
  low : ∀ k, k < B → A'.heap[k]? = A.heap[k]?
  arr : ∀ q, arrOf A m = some q → A'.heap[q]? = A.heap[q]?
theorem ItS.arrE {B m : Nat} {A A' : World} (h : ItS B m A A') (hm : m < B) : arrOf A' m = arrOf A m := arrOf_block (h.low m hm)
theorem ItS.trans {B m : Nat} {A A' A'' : World} (h : ItS B m A A') (k : ItS B m A' A'') (hm : m < B) : ItS B m A A'' :=
  ⟨k.os.trans h.os, k.tape.trans h.tape, k.output.trans h.output, Nat.le_trans h.size k.size, fun i hi => (k.low i hi).trans (h.low i hi), fun q e => (k.arr q (by rw [h.arrE hm]; exact e)).trans (h.arr q e)⟩
theorem ItS.below {B m : Nat} {A A' : World} (h : Below A.heap.size A A') (hB : B ≤ A.heap.size) (ha : ∀ q, arrOf A m = some q → q < A.heap.size) : ItS B m A A' :=
  ⟨h.os, h.tape, h.output, h.size, fun k hk => h.block k (by omega), fun q e => h.block q (ha q e)⟩
theorem ItS.bel {B m : Nat} {w A A' : World} (h : ItS B m A A') (h0 : Below B w A) : Below B w A' :=
  ⟨h.os.trans h0.os, h.tape.trans h0.tape, h.output.trans h0.output, Nat.le_trans h0.size h.size, fun k hk => (h.low k hk).trans (h0.block k hk)⟩
structure Dj (B m hb : Nat) (ap : Option Nat) (w : World) : Prop where
  mB : m < B
  hB : B ≤ hb
  wB : B ≤ w.heap.size
  hw : hb < w.heap.size
  ah : ∀ q, arrOf w hb = some q → B ≤ q ∧ q < w.heap.size ∧ q ≠ hb ∧ ap ≠ some q ∧ arrOf w m ≠ some q
  pp : ∀ q, ap = some q → B ≤ q ∧ q < w.heap.size ∧ q ≠ hb ∧ arrOf w m ≠ some q
  am : ∀ q, arrOf w m = some q → q < w.heap.size ∧ q ≠ hb
theorem Dj.below {B m hb : Nat} {ap : Option Nat} {w w1 : World} (h : Dj B m hb ap w) (hb1 : Below w.heap.size w w1) : Dj B m hb ap w1 := by
  have e1 : arrOf w1 hb = arrOf w hb := arrOf_block (hb1.block hb h.hw)
  have e2 : arrOf w1 m = arrOf w m := arrOf_block (hb1.block m (by have := h.mB; have := h.wB; omega))
  have hs := hb1.size
  refine ⟨h.mB, h.hB, by have := h.wB; omega, by have := h.hw; omega, fun q e => ?_, fun q e => ?_, fun q e => ?_⟩
  · rw [e1] at e; rw [e2]; have := h.ah q e; exact ⟨this.1, by omega, this.2.2⟩
  · rw [e2]; have := h.pp q e; exact ⟨this.1, by omega, this.2.2⟩
  · rw [e2] at e; have := h.am q e; exact ⟨by omega, this.2⟩
theorem Dj.itBelow {B m hb : Nat} {ap : Option Nat} {w w1 : World} (h : Dj B m hb ap w) (hb1 : Below w.heap.size w w1) : ItS B m w w1 := ItS.below hb1 h.wB (fun q e => (h.am q e).1)
theorem Dj.mHF {B m hb : Nat} {ap : Option Nat} {w w1 : World} (h : Dj B m hb ap w) (hf : HF hb w w1) : arrOf w1 m = arrOf w m := by
  have := h.mB; have := h.hB; have := h.wB
  exact arrOf_block (hf.keep m (by omega) (by omega) (fun e => by have := h.ah m e; omega))
theorem Dj.hf {B m hb : Nat} {ap : Option Nat} {w w1 : World} (h : Dj B m hb ap w) (hf : HF hb w w1) : Dj B m hb ap w1 := by
  have e2 := h.mHF hf
  have hs := hf.size
  refine ⟨h.mB, h.hB, by have := h.wB; omega, by have := h.hw; omega, fun q e => ?_, fun q e => ?_, fun q e => ?_⟩
  · rw [e2]
    rcases hf.arr with e1 | ⟨q', e1, h1, h2⟩
    · rw [e1] at e; have := h.ah q e; exact ⟨this.1, by omega, this.2.2⟩
    · rw [e1] at e; cases e
      have := h.hw; have := h.wB
      exact ⟨by omega, h2, by omega, fun e => by have := (h.pp q e).2.1; omega, fun e => by have := (h.am q e).1; omega⟩
  · rw [e2]; have := h.pp q e; exact ⟨this.1, by omega, this.2.2⟩
  · rw [e2] at e; have := h.am q e; exact ⟨by omega, this.2⟩
theorem Dj.itHF {B m hb : Nat} {ap : Option Nat} {w w1 : World} (h : Dj B m hb ap w) (hf : HF hb w w1) : ItS B m w w1 := by
  have := h.hB; have := h.wB
  exact ⟨hf.os, hf.tape, hf.output, hf.size, fun k hk => hf.keep k (by omega) (by omega) (fun e => by have := h.ah k e; omega), fun q e => hf.keep q (h.am q e).1 (h.am q e).2 (fun e' => (h.ah q e').2.2.2.2 e)⟩
theorem Dj.ownHF {B m hb : Nat} {v : Value} {l : List (Int × Int)} {w w1 : World} (h : Dj B m hb v.ownBlock w) (hf : HF hb w w1) (ho : Own w B v l) : Own w1 B v l :=
  ownK_at ho fun q e => hf.keep q (h.pp q e).2.1 (h.pp q e).2.2.1 (fun e' => (h.ah q e').2.2.2.1 e)
section
variable {F : Fence} {n : Nat} {P : Program}
def LpAt (B : Nat) (r : Loop) (W : World) : Prop := W.heap[B]? = some (.deferred (some [])) ∧ W.heap[B + 1]? = some (.loop r)
theorem LpAt.lt {B : Nat} {r : Loop} {W : World} (h : LpAt B r W) : B + 1 < W.heap.size := (Array.getElem?_eq_some_iff.1 h.2).1
theorem LpAt.new (w : World) (r : Loop) : LpAt w.heap.size r ((w.alloc (.deferred (some []))).alloc (.loop r)) := by
  have e := World.alloc_heap_new (w.alloc (.deferred (some []))) (.loop r)
  rw [World.size_alloc] at e
  exact ⟨(Below.heap_alloc _ _ _ (by simp)).trans (World.alloc_heap_new w _), e⟩
theorem LpAt.it {B m : Nat} {r : Loop} {W W' : World} (h : LpAt B r W) (hi : ItS (B + 1 + 1) m W W') : LpAt B r W' := ⟨(hi.low _ (by omega)).trans h.1, (hi.low _ (by omega)).trans h.2⟩
theorem LpAt.put {B : Nat} {r : Loop} {W : World} (h : LpAt B r W) (r' : Loop) : LpAt B r' (W.putObj (B + 1) (.loop r')) :=
  ⟨(World.putObj_heap_other (by omega)).trans h.1, World.putObj_heap_same h.lt⟩
theorem LpAt.kp {B m : Nat} {r : Loop} {W : World} (h : LpAt B r W) (r' : Loop) (hm : m < B) : KpA m W (W.putObj (B + 1) (.loop r')) := KpA.put W _ _ _ (by omega) h.2 rfl
theorem LpAt.own {β : Type} {B : Nat} {r : Loop} {W : World} {I : β → World → Prop} {s : β} (h : LpAt B r W) (r' : Loop) (hI : OwnFrom B I) (hs : I s W) : I s (W.putObj (B + 1) (.loop r')) := hI.putObj _ hs (by omega) h.2 rfl
end
end Go.Proofs.YtldejkhemkjcgaaGreatDoor
