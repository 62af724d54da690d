import Derived.Test.YtldejkhemkjcgaaGreatDoorGlk
import Derived.Test.YtldejkhemkjcgaaGreatDoorGq1
import Derived.Test.YtldejkhemkjcgaaGreatDoorGj5
import Derived.Sort.QuietIn
import Derived.BigQuiet
import Derived.Test.YtldejkhemkjcgaaGreatDoorGb3
import Derived.Deep.RegionHeld3
namespace Go.Proofs.YtldejkhemkjcgaaGreatDoor
open Go.RowKit Go.Shelf
attribute [local go_sem] Oper.semAt_some
structure JtS (l : List Rw) (m hb : Nat) (J : List (Int × Int) → World → Prop) (p : Value) (n : Nat) (next : List (Int × Int)) (wr : World) : Prop where
  own : Own wr hb p ((jtimes l).take n)
  hp : Hp wr hb next
  low : HeapLow next next.length 0
  pt : PtI l n next
  le : next.length ≤ 400 + 64 * n
  dj : Dj hb m hb p.ownBlock wr
  jj : J ((jtimes l).take n) wr
structure JiS (l : List Rw) (m hb bt : Nat) (J : List (Int × Int) → World → Prop) (pv : Value) (n : Nat) (c : List (Int × Int)) (X Y : Int) (k : Nat) (c' : List (Int × Int)) (wr : World) : Prop where
  own : Own wr hb pv ((jtimes l).take n)
  hp : Hp wr hb c'
  low : HeapLow c' c'.length 0
  len : c'.length = c.length + k
  mem : ∀ x, x ∈ c' ↔ x ∈ c ∨ ∃ j, j < k ∧ x = jnT (gt (jtimes l) j) (X, Y)
  dj : Dj hb m hb pv.ownBlock wr
  jj : J ((jtimes l).take (n + 1)) wr
  bx : Bk wr bt #[.int .i64 X, .int .i64 Y] 41
  ba : arrOf wr hb ≠ some bt
  bh : bt ≠ hb
theorem JiS.step {l : List Rw} {m hb bt : Nat} {J : List (Int × Int) → World → Prop} {pv : Value} {n : Nat} {c : List (Int × Int)} {X Y : Int} {k : Nat} {c' c'' : List (Int × Int)} {wr w1 w2 : World} (h : JiS l m hb bt J pv n c X Y k c' wr) (hJ : ∀ s A A', J s A → ItS hb m A A' → J s A')
    (hb1 : Below wr.heap.size wr w1) (hF : HF hb w1 w2) (hp2 : Hp w2 hb c'') (hl : c''.length = c'.length + 1) (hm : ∀ x, x ∈ c'' ↔ x ∈ c' ∨ x = jnT (gt (jtimes l) k) (X, Y)) (hlow : HeapLow c'' c''.length 0) : JiS l m hb bt J pv n c X Y (k + 1) c'' w2 := by
  have D1 := h.dj.below hb1
  have ha : arrOf w1 hb ≠ some bt := by rw [arrOf_block (hb1.block hb h.dj.hw)]; exact h.ba
  have hbt := (h.bx.keep hb1).lt
  refine ⟨D1.ownHF hF (own_keep h.own hb1), hp2, hlow, by rw [hl, h.len]; omega, fun x => ?_, D1.hf hF, hJ _ _ _ (hJ _ _ _ h.jj (h.dj.itBelow hb1)) (D1.itHF hF), hF.bk (h.bx.keep hb1) h.bh ha, ?_, h.bh⟩
  · rw [hm, h.mem]
    constructor
    · rintro ((e | ⟨j, hj, e⟩) | e)
      · exact .inl e
      · exact .inr ⟨j, by omega, e⟩
      · exact .inr ⟨k, by omega, e⟩
    · rintro (e | ⟨j, hj, e⟩)
      · exact .inl (.inl e)
      · by_cases hq : j = k
        · subst hq; exact .inr e
        · exact .inl (.inr ⟨j, by omega, e⟩)
  · rcases hF.arr with e | ⟨q, e, h1, h2⟩
    · rw [e]; exact ha
    · rw [e]; intro e'; cases e'; omega
end Go.Proofs.YtldejkhemkjcgaaGreatDoor
namespace Go.Proofs.YtldejkhemkjcgaaGreatDoor
open Go.RowKit Go.Shelf
attribute [local go_sem] Oper.semAt_some
end Go.Proofs.YtldejkhemkjcgaaGreatDoor
namespace Go.Proofs.YtldejkhemkjcgaaGreatDoor
open Go.RowKit Go.Shelf
attribute [local go_sem] Oper.semAt_some
end Go.Proofs.YtldejkhemkjcgaaGreatDoor
namespace Go.Proofs.YtldejkhemkjcgaaGreatDoor
open Go.RowKit
theorem nodup_le : ∀ (T G : List (Int × Int)), T.Nodup → (∀ x ∈ T, x ∈ G) → T.length ≤ G.length
  | [], _, _, _ => Nat.zero_le _
  | x :: T, G, h, hs => by
    rw [List.nodup_cons] at h
    have hx := hs x (by simp)
    have h1 := nodup_le T (G.erase x) h.2 (fun y hy => (List.mem_erase_of_ne (fun e => h.1 (by rw [← e]; exact hy))).2 (hs y (by simp [hy])))
    have h2 := List.length_erase_of_mem hx
    have h3 := List.length_pos_of_mem hx
    simp only [List.length_cons]; omega
structure GtI (l : List Rw) (T : List (Int × Int)) (i j : Nat) : Prop where
  nd : T.Nodup
  inn : ∀ x ∈ T, x ∈ jtimes l
  rows : ∀ r ∈ l, r.1.2 ∈ T
  joins : ∀ p q, p < i → q < p → jnT (gt T p) (gt T q) ∈ T
  part : ∀ q, q < j → jnT (gt T i) (gt T q) ∈ T
theorem GtI.len {l : List Rw} {T : List (Int × Int)} {i j : Nat} (h : GtI l T i j) : T.length ≤ 64 := Nat.le_trans (nodup_le T _ h.nd h.inn) (jtimes_len l)
theorem GtI.same {l : List Rw} {T : List (Int × Int)} {i j : Nat} (h : GtI l T i j) (hj : jnT (gt T i) (gt T j) ∈ T) : GtI l T i (j + 1) :=
  ⟨h.nd, h.inn, h.rows, h.joins, fun q hq => by
    by_cases e : q = j
    · subst e; exact hj
    · exact h.part q (by omega)⟩
end Go.Proofs.YtldejkhemkjcgaaGreatDoor
namespace Go.Proofs.YtldejkhemkjcgaaGreatDoor
open Go.RowKit
structure OnT (l : List Rw) (T : List (Int × Int)) : Prop where
  nd : T.Nodup
  mem : ∀ x, x ∈ T ↔ x ∈ l.map fun r => r.1.2
theorem OnT.len {l : List Rw} {T : List (Int × Int)} (h : OnT l T) : T.length ≤ l.length := by
  have := nodup_le T _ h.nd (fun x hx => (h.mem x).1 hx)
  rw [List.length_map] at this; exact this
theorem OnT.nil : OnT [] [] := ⟨by simp, by simp⟩
theorem OnT.yes {l : List Rw} {T : List (Int × Int)} {r : Rw} (h : OnT l T) (hr : r.1.2 ∈ T) : OnT (l ++ [r]) T := ⟨h.nd, fun x => by
  rw [h.mem, List.map_append, List.mem_append]
  constructor
  · exact .inl
  · rintro (e | e)
    · exact e
    · simp at e; subst e; exact (h.mem _).1 hr⟩
theorem OnT.no {l : List Rw} {T : List (Int × Int)} {r : Rw} (h : OnT l T) (hr : r.1.2 ∉ T) : OnT (l ++ [r]) (T ++ [r.1.2]) := ⟨by
  rw [List.nodup_append]
  refine ⟨h.nd, by simp, fun a ha b hb => ?_⟩
  simp at hb; subst hb; intro e; subst e; exact hr ha, fun x => by
  rw [List.map_append, List.mem_append, List.mem_append, h.mem]; simp⟩
theorem OnT.start {l : List Rw} {T : List (Int × Int)} (h : OnT l T) (hk : rokB l = true) : GtI l T 0 0 :=
  ⟨h.nd, fun x hx => by
    obtain ⟨r, hr, rfl⟩ := List.mem_map.1 ((h.mem x).1 hx)
    exact jt_self hk hr, fun r hr => (h.mem _).2 (List.mem_map_of_mem hr), fun p q hp => by omega, fun q hq => by omega⟩
end Go.Proofs.YtldejkhemkjcgaaGreatDoor
