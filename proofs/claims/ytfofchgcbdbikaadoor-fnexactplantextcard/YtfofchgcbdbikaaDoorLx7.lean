/- Reading a plan's words: how what is read lies in memory, each part in blocks of its own. -/
import Derived.Test.YtfofchgcbdbikaaDoorLq5
namespace Go.Proofs.YtfofchgcbdbikaaDoor
open Go.RowKit Go.Shelf

/-- The Kids of a plan, in blocks that p lets by, each in blocks of its own. -/
def KdQ (p : Nat → Prop) (w : World) : PT → Value → Prop
  | .n0 _ _, s => ∃ a c, s = .slice a 0 c
  | .n1 _ _ x, s => ∃ g c cs sx, s = .slice (some ⟨g, 0, none⟩) 1 c ∧ p g ∧ Bk w g cs 25 ∧ cs[0]? = some (.int .i64 x.k) ∧ cs[1]? = some (.int .i64 x.n) ∧ cs[2]? = some sx ∧ KdQ (fun b => p b ∧ b ≠ g) w x sx
  | .n2 _ _ x y, s => ∃ g c cs sx sy m, s = .slice (some ⟨g, 0, none⟩) 2 c ∧ p g ∧ Bk w g cs 25 ∧ cs[0]? = some (.int .i64 x.k) ∧ cs[1]? = some (.int .i64 x.n) ∧ cs[2]? = some sx ∧ cs[3]? = some (.int .i64 y.k) ∧ cs[4]? = some (.int .i64 y.n) ∧ cs[5]? = some sy ∧ KdQ (fun b => (p b ∧ b ≠ g) ∧ b < m) w x sx ∧ KdQ (fun b => (p b ∧ b ≠ g) ∧ m ≤ b) w y sy
theorem KdQ.sl {p : Nat → Prop} {w : World} {t : PT} {s : Value} (h : KdQ p w t s) : ∃ a c, s = .slice a t.len c := by
  cases t with
  | n0 k n => obtain ⟨a, c, rfl⟩ := h; exact ⟨_, _, rfl⟩
  | n1 k n x => obtain ⟨g, c, cs, sx, rfl, _⟩ := h; exact ⟨_, _, rfl⟩
  | n2 k n x y => obtain ⟨g, c, cs, sx, sy, m, rfl, _⟩ := h; exact ⟨_, _, rfl⟩
theorem bk_move {w w' : World} {g : Nat} {cs : Array Value} {t : TypeId} (h : Bk w g cs t) (e : w'.heap[g]? = w.heap[g]?) : Bk w' g cs t := by unfold Bk; rw [e]; exact h
theorem KdQ.move : ∀ {t : PT} {p q : Nat → Prop} {w w' : World} {s : Value}, (∀ g, p g → g < w.heap.size → q g ∧ w'.heap[g]? = w.heap[g]?) → KdQ p w t s → KdQ q w' t s
  | .n0 _ _, _, _, _, _, _, _, h => h
  | .n1 _ _ _, _, _, _, _, _, H, ⟨g, c, cs, sx, e, hp, hb, h1, h2, h3, h4⟩ =>
    ⟨g, c, cs, sx, e, (H g hp hb.lt).1, bk_move hb (H g hp hb.lt).2, h1, h2, h3, KdQ.move (fun b hb' hl => ⟨⟨(H b hb'.1 hl).1, hb'.2⟩, (H b hb'.1 hl).2⟩) h4⟩
  | .n2 _ _ _ _, _, _, _, _, _, H, ⟨g, c, cs, sx, sy, m, e, hp, hb, h1, h2, h3, h4, h5, h6, h7, h8⟩ =>
    ⟨g, c, cs, sx, sy, m, e, (H g hp hb.lt).1, bk_move hb (H g hp hb.lt).2, h1, h2, h3, h4, h5, h6, KdQ.move (fun b hb' hl => ⟨⟨⟨(H b hb'.1.1 hl).1, hb'.1.2⟩, hb'.2⟩, (H b hb'.1.1 hl).2⟩) h7, KdQ.move (fun b hb' hl => ⟨⟨⟨(H b hb'.1.1 hl).1, hb'.1.2⟩, hb'.2⟩, (H b hb'.1.1 hl).2⟩) h8⟩
theorem KdQ.kd {B : Nat} {w : World} : ∀ {t : PT} {p : Nat → Prop} {s : Value}, (∀ g, p g → B ≤ g) → KdQ p w t s → KdS B w t s
  | .n0 _ _, _, _, _, h => h
  | .n1 _ _ _, _, _, H, ⟨g, c, _, sx, e, hp, hb, h1, h2, h3, h4⟩ => ⟨g, 0, c, sx, e, H g hp, hb.at h1, hb.at h2, hb.at h3, KdQ.kd (fun b hb' => H b hb'.1) h4⟩
  | .n2 _ _ _ _, _, _, H, ⟨g, c, _, sx, sy, _, e, hp, hb, h1, h2, h3, h4, h5, h6, h7, h8⟩ => ⟨g, 0, c, sx, sy, e, H g hp, hb.at h1, hb.at h2, hb.at h3, hb.at h4, hb.at h5, hb.at h6, KdQ.kd (fun b hb' => H b hb'.1.1) h7, KdQ.kd (fun b hb' => H b hb'.1.1) h8⟩
/-- The blocks of the i-th part: ahead of m those of the first, from m on the others'. -/
def prt (m i g : Nat) : Prop := (i = 0 → g < m) ∧ (0 < i → m ≤ g)
theorem kdQ_of {p q : Nat → Prop} {w : World} {B : Nat} {k n : Int} {l : List PT} {sl : Value} {m : Nat} {ps : List (Value × Value × Value)} (ho : w.ownsRow B 25 3 sl l.length (plC ps)) (hl : ps.length = l.length) (h2 : l.length ≤ 2)
    (hk : ∀ (j : Nat) (t : PT) (z : Value × Value × Value), l[j]? = some t → ps[j]? = some z → ∃ s, z = plE t s ∧ KdQ (fun g => (p g ∧ sl.ownBlock ≠ some g) ∧ prt m j g) w t s) (hq : ∀ g, B ≤ g → q g) (hpq : ∀ g, p g → q g) : KdQ q w (mkT k n l) sl := by
  have hh := ho
  obtain ⟨_, ⟨rfl, h0⟩ | ⟨g, cap, cur, rfl, hg, hbk, _⟩⟩ := ho
  · match l, h0 with
    | [], _ => exact ⟨_, _, rfl⟩
  · have hb : Bk w g cur 25 := hbk
    have ha : ∀ i, i < l.length * 3 → cur[i]? = (plC ps)[i]? := fun i hi => by
      rw [← hh.cellAt i hi]
      have hc : w.heap[g]? = some (.cells cur 25 (0, 0)) := hbk
      simp only [World.cell?, hc]
      rfl
    have hne : ∀ {j b : Nat}, ((p b ∧ (Value.slice (some ⟨g, 0, none⟩) l.length cap).ownBlock ≠ some b) ∧ prt m j b) → q b ∧ b ≠ g := fun h => ⟨hpq _ h.1.1, fun e => h.1.2 (by subst e; rfl)⟩
    match l, ps, hl, h2 with
    | [], _, _, _ => exact ⟨_, _, rfl⟩
    | [x], [z], _, _ =>
      obtain ⟨s, rfl, ok⟩ := hk 0 x z rfl rfl
      refine ⟨g, cap, cur, s, rfl, hq g hg, hb, ?_, ?_, ?_, ok.move fun b h _ => ⟨hne h, rfl⟩⟩
      · rw [ha 0 (by simp)]; simp [plC]
      · rw [ha 1 (by simp)]; simp [plC]
      · rw [ha 2 (by simp)]; simp [plC]
    | [x, y], [z, z'], _, _ =>
      obtain ⟨s, rfl, ok⟩ := hk 0 x z rfl rfl
      obtain ⟨s', rfl, ok'⟩ := hk 1 y z' rfl rfl
      refine ⟨g, cap, cur, s, s', m, rfl, hq g hg, hb, ?_, ?_, ?_, ?_, ?_, ?_, ok.move fun b h _ => ⟨⟨hne h, h.2.1 rfl⟩, rfl⟩, ok'.move fun b h _ => ⟨⟨hne h, h.2.2 (by omega)⟩, rfl⟩⟩
      · rw [ha 0 (by simp)]; simp [plC]
      · rw [ha 1 (by simp)]; simp [plC]
      · rw [ha 2 (by simp)]; simp [plC]
      · rw [ha 3 (by simp)]; simp [plC]
      · rw [ha 4 (by simp)]; simp [plC]
      · rw [ha 5 (by simp)]; simp [plC]
/-- What readPlan answers: u is a world that lay there ahead, whose words are read. -/
def ReadPostQ (u : World) (d : Nat) (ws : List By) (w : World) (e : Ending) (w' : World) : Prop :=
  ((∃ t r a n c v, readW d ws = some (t, r) ∧ e = .returned (.tuple #[pl t.k t.n (.slice a n c), v, .bool true]) ∧ KdQ (fun g => w.heap.size ≤ g) w' t (.slice a n c) ∧ Wss u v r) ∨ (readW d ws = none ∧ e = .returned (.tuple #[pl 0 0 (.slice none 0 0), .slice none 0 0, .bool false]))) ∧ Below w.heap.size w w'
/-- What holds between two rounds: j Kids are read. -/
structure RdQ (u : World) (d : Nat) (ws : List By) (p : Int × Int) (w : World) (b j : Nat) (vr : Value) (wr : World) : Prop where
  le : j ≤ (kidN p.1).toNat
  ps : ∃ l r sl ps m, readK d j ws = some (l, r) ∧ Wss u vr r ∧ ps.length = j ∧ Bk wr b #[.int .i64 p.1, .int .i64 p.2, sl] 25 ∧ wr.ownsRow (b + 1) 25 3 sl j (plC ps) ∧ m ≤ wr.heap.size ∧ (∀ (i : Nat) (t : PT) (z : Value × Value × Value), l[i]? = some t → ps[i]? = some z → ∃ s, z = plE t s ∧ KdQ (fun g => (b < g ∧ sl.ownBlock ≠ some g) ∧ prt m i g) wr t s)
  box : Bk wr w.heap.size #[.int .i64 0, .int .i64 0, .slice none 0 0] 25
  nine : w.heap.size < b
  bel : Below w.heap.size w wr
theorem rdQ_step {u : World} {d : Nat} {ws : List By} {p : Int × Int} {w : World} {b9 k : Nat} {wr W8 w9 : World} {l : List PT} {r r2 : List By} {sl v2 : Value} {ps : List (Value × Value × Value)} {t : PT} {b : Option Addr} {m c g cap m0 : Nat}
    (hlt : k < (kidN p.1).toNat) (hrd : readK d k ws = some (l, r)) (hpl : ps.length = k) (b9k : Bk wr b9 #[.int .i64 p.1, .int .i64 p.2, sl] 25) (hown : wr.ownsRow (b9 + 1) 25 3 sl k (plC ps))
    (hps : ∀ (i : Nat) (t : PT) (z : Value × Value × Value), l[i]? = some t → ps[i]? = some z → ∃ s, z = plE t s ∧ KdQ (fun g => (b9 < g ∧ sl.ownBlock ≠ some g) ∧ prt m0 i g) wr t s) (hms : m0 ≤ wr.heap.size) (box : Bk wr w.heap.size #[.int .i64 0, .int .i64 0, .slice none 0 0] 25) (h9 : w.heap.size < b9) (hb : Below w.heap.size w wr)
    (hb8 : Below wr.heap.size wr W8) (hk : KdQ (fun g => wr.heap.size ≤ g) W8 t (.slice b m c)) (hr : readW d r = some (t, r2)) (hv : Wss u v2 r2) (hn : w9.ownsRow (b9 + 1) 25 3 (.slice (some ⟨g, 0, none⟩) (k + 1) cap) (k + 1) (plC (ps ++ [(.int .i64 t.k, .int .i64 t.n, .slice b m c)]))) (hg : W8.grownBy w9 sl.ownBlock) (hor : sl.ownBlock = some g ∨ g = W8.heap.size) :
    RdQ u d ws p w b9 (k + 1) v2 (w9.setCell ⟨b9, 2, none⟩ (.slice (some ⟨g, 0, none⟩) (k + 1) cap)) := by
  have hlo := hown.lt
  have h9l := b9k.lt
  have hs8 := hb8.size
  have hll : l.length = k := readK_len hrd
  have hne : sl.ownBlock ≠ some b9 := fun e => by have := (hlo _ e).1; omega
  have hset : ∀ x, x ≠ b9 → (w9.setCell ⟨b9, 2, none⟩ (.slice (some ⟨g, 0, none⟩) (k + 1) cap)).heap[x]? = w9.heap[x]? := fun x hx => Below.heap_setCell _ _ _ _ (by show _ ≠ _; first | exact hx | exact fun e => hx e.symm)
  have hsz9 : W8.heap.size ≤ w9.heap.size := hg.size
  have hszs : (w9.setCell ⟨b9, 2, none⟩ (.slice (some ⟨g, 0, none⟩) (k + 1) cap)).heap.size = w9.heap.size := by simp
  refine ⟨by omega, ⟨l ++ [t], r2, _, ps ++ [(.int .i64 t.k, .int .i64 t.n, .slice b m c)], (if k = 0 then W8.heap.size else m0), by simp [readK, hrd, hr], hv, by simp [hpl], (pl_grew (b9k.keep hb8) hg hne).set 2 _, pl_own_move hn fun x hx _ => hset x (by omega), by rw [hszs]; split <;> omega, ?_⟩, ?_, h9, ?_⟩
  · intro j t' z ht hj
    rcases Nat.lt_or_ge j k with h | h
    · rw [List.getElem?_append_left (by omega)] at hj ht
      obtain ⟨s, e, ok⟩ := hps j t' z ht hj
      refine ⟨s, e, ok.move fun q hq hql => ?_⟩
      have x1 : (Value.slice (some ⟨g, 0, none⟩) (k + 1) cap).ownBlock ≠ some q := by
        intro e2
        have e3 : g = q := by simpa [Value.ownBlock] using e2
        subst e3
        rcases hor with h1 | h1
        · exact hq.1.2 h1
        · omega
      refine ⟨⟨⟨hq.1.1, x1⟩, by rw [if_neg (by omega)]; exact hq.2⟩, ?_⟩
      rw [hset q (by omega), hg.block q (by omega) (fun e => hq.1.2 e.symm)]; exact hb8.block q hql
    · have hj2 : j = k := by
        have := (List.getElem?_eq_some_iff.1 hj).1
        simp at this; omega
      subst hj2
      rw [List.getElem?_append_right (by omega), hpl, Nat.sub_self] at hj
      rw [List.getElem?_append_right (by omega), hll, Nat.sub_self] at ht
      simp only [List.getElem?_cons_zero, Option.some.injEq] at hj ht
      subst hj
      subst ht
      refine ⟨_, rfl, hk.move fun q hq hql => ?_⟩
      have x1 : (Value.slice (some ⟨g, 0, none⟩) (j + 1) cap).ownBlock ≠ some q := by
        intro e2
        have e3 : g = q := by simpa [Value.ownBlock] using e2
        subst e3
        rcases hor with h1 | h1
        · have := (hlo _ h1).2; omega
        · omega
      refine ⟨⟨⟨by omega, x1⟩, ⟨fun e => by rw [if_pos e]; exact hql, fun e => by rw [if_neg (by omega)]; exact Nat.le_trans hms hq⟩⟩, ?_⟩
      rw [hset q (by omega)]; exact hg.block q hql (fun e => by have := (hlo _ e.symm).2; omega)
  · have b2 := pl_grew (box.keep hb8) hg (fun e => by have := (hlo _ e).1; omega)
    unfold Bk
    rw [hset _ (by omega)]; exact b2
  · exact ((bStep hb hb8).grown hg (by have := hb.size; omega) (fun x e => by have := (hlo _ e).1; omega)).setCell (by show _ ≤ b9; omega) _
end Go.Proofs.YtfofchgcbdbikaaDoor
