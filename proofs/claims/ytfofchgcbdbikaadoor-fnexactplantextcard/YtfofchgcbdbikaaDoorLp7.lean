/- Reading a plan's words: how what is read lies in memory. -/
import Derived.Test.YtfofchgcbdbikaaDoorLp6
import Derived.Test.YtfofchgcbdbikaaDoorGpa
namespace Go.Proofs.YtfofchgcbdbikaaDoor
open Go.RowKit Go.Shelf

/-- The Kids of a plan, in blocks that p lets by. -/
def KdP (p : Nat → Prop) (w : World) : PT → Value → Prop
  | .n0 _ _, s => ∃ a c, s = .slice a 0 c
  | .n1 _ _ x, s => ∃ g c sx, s = .slice (some ⟨g, 0, none⟩) 1 c ∧ p g ∧ w.cell? ⟨g, 0, none⟩ = some (.int .i64 x.k) ∧ w.cell? ⟨g, 1, none⟩ = some (.int .i64 x.n) ∧ w.cell? ⟨g, 2, none⟩ = some sx ∧ KdP p w x sx
  | .n2 _ _ x y, s => ∃ g c sx sy, s = .slice (some ⟨g, 0, none⟩) 2 c ∧ p g ∧ w.cell? ⟨g, 0, none⟩ = some (.int .i64 x.k) ∧ w.cell? ⟨g, 1, none⟩ = some (.int .i64 x.n) ∧ w.cell? ⟨g, 2, none⟩ = some sx ∧ w.cell? ⟨g, 3, none⟩ = some (.int .i64 y.k) ∧ w.cell? ⟨g, 4, none⟩ = some (.int .i64 y.n) ∧ w.cell? ⟨g, 5, none⟩ = some sy ∧ KdP p w x sx ∧ KdP p w y sy
theorem KdP.sl {p : Nat → Prop} {w : World} {t : PT} {s : Value} (h : KdP p w t s) : ∃ a c, s = .slice a t.len c := by
  cases t with
  | n0 k n => obtain ⟨a, c, rfl⟩ := h; exact ⟨_, _, rfl⟩
  | n1 k n x => obtain ⟨g, c, sx, rfl, _⟩ := h; exact ⟨_, _, rfl⟩
  | n2 k n x y => obtain ⟨g, c, sx, sy, rfl, _⟩ := h; exact ⟨_, _, rfl⟩
theorem KdP.move {p q : Nat → Prop} {w w' : World} (H : ∀ g, p g → g < w.heap.size → q g ∧ w'.heap[g]? = w.heap[g]?) : ∀ {t : PT} {s : Value}, KdP p w t s → KdP q w' t s
  | .n0 _ _, _, h => h
  | .n1 _ _ _, _, ⟨g, c, sx, e, hp, h1, h2, h3, h4⟩ =>
    have hh := H g hp (lt_of_cell h1)
    ⟨g, c, sx, e, hh.1, cell_at hh.2 h1, cell_at hh.2 h2, cell_at hh.2 h3, KdP.move H h4⟩
  | .n2 _ _ _ _, _, ⟨g, c, sx, sy, e, hp, h1, h2, h3, h4, h5, h6, h7, h8⟩ =>
    have hh := H g hp (lt_of_cell h1)
    ⟨g, c, sx, sy, e, hh.1, cell_at hh.2 h1, cell_at hh.2 h2, cell_at hh.2 h3, cell_at hh.2 h4, cell_at hh.2 h5, cell_at hh.2 h6, KdP.move H h7, KdP.move H h8⟩
theorem KdP.kd {B : Nat} {w : World} : ∀ {t : PT} {s : Value}, KdP (fun g => B ≤ g) w t s → KdS B w t s
  | .n0 _ _, _, h => h
  | .n1 _ _ _, _, ⟨g, c, sx, e, hp, h1, h2, h3, h4⟩ => ⟨g, 0, c, sx, e, hp, h1, h2, h3, KdP.kd h4⟩
  | .n2 _ _ _ _, _, ⟨g, c, sx, sy, e, hp, h1, h2, h3, h4, h5, h6, h7, h8⟩ => ⟨g, 0, c, sx, sy, e, hp, h1, h2, h3, h4, h5, h6, KdP.kd h7, KdP.kd h8⟩
abbrev plE (t : PT) (s : Value) : Value × Value × Value := (.int .i64 t.k, .int .i64 t.n, s)
abbrev plC (ps : List (Value × Value × Value)) : List Value := ps.flatMap fun p => [p.1, p.2.1, p.2.2]
/-- A plan with so many Kids. -/
def mkT (k n : Int) : List PT → PT
  | [] => .n0 k n
  | [x] => .n1 k n x
  | x :: y :: _ => .n2 k n x y
theorem mkT_k (k n : Int) (l : List PT) : (mkT k n l).k = k := by
  match l with
  | [] => rfl
  | [_] => rfl
  | _ :: _ :: _ => rfl
theorem mkT_n (k n : Int) (l : List PT) : (mkT k n l).n = n := by
  match l with
  | [] => rfl
  | [_] => rfl
  | _ :: _ :: _ => rfl
theorem kdP_of {p q : Nat → Prop} {w : World} {B : Nat} {k n : Int} {l : List PT} {sl : Value} {ps : List (Value × Value × Value)} (ho : w.ownsRow B 25 3 sl l.length (plC ps)) (hl : ps.length = l.length) (h2 : l.length ≤ 2)
    (hk : ∀ (j : Nat) (t : PT) (z : Value × Value × Value), l[j]? = some t → ps[j]? = some z → ∃ s, z = plE t s ∧ KdP p w t s) (hq : ∀ g, B ≤ g → q g) (hpq : ∀ g, p g → q g) : KdP q w (mkT k n l) sl := by
  have hm : ∀ {x : PT} {s : Value}, KdP p w x s → KdP q w x s := KdP.move fun g h _ => ⟨hpq g h, rfl⟩
  have hh := ho
  obtain ⟨_, ⟨rfl, h0⟩ | ⟨g, cap, cur, rfl, hg, _⟩⟩ := ho
  · match l, h0 with
    | [], _ => exact ⟨_, _, rfl⟩
  · have ha := fun i (hi : i < l.length * 3) => hh.cellAt i hi
    match l, ps, hl, h2 with
    | [], _, _, _ => exact ⟨_, _, rfl⟩
    | [x], [z], _, _ =>
      obtain ⟨s, rfl, ok⟩ := hk 0 x z rfl rfl
      refine ⟨g, cap, s, rfl, hq g hg, ?_, ?_, ?_, hm ok⟩
      · rw [ha 0 (by simp)]; simp [plC]
      · rw [ha 1 (by simp)]; simp [plC]
      · rw [ha 2 (by simp)]; simp [plC]
    | [x, y], [z, z'], _, _ =>
      obtain ⟨s, rfl, ok⟩ := hk 0 x z rfl rfl
      obtain ⟨s', rfl, ok'⟩ := hk 1 y z' rfl rfl
      refine ⟨g, cap, s, s', rfl, hq g hg, ?_, ?_, ?_, ?_, ?_, ?_, hm ok, hm ok'⟩
      · rw [ha 0 (by simp)]; simp [plC]
      · rw [ha 1 (by simp)]; simp [plC]
      · rw [ha 2 (by simp)]; simp [plC]
      · rw [ha 3 (by simp)]; simp [plC]
      · rw [ha 4 (by simp)]; simp [plC]
      · rw [ha 5 (by simp)]; simp [plC]
theorem infoP : (Tryd.prog.info? 25).map (fun i => (i.zero, i.size, i.bytes)) = some (some (.agg #[.int .i64 0, .int .i64 0, .slice none 0 0]), 3, 40) := by kernel_rfl
theorem pl_news3 {w : World} {g : Nat} {x y z : Value} {t : TypeId} (h : Bk w g #[x, y, z] t) : ∀ j u, [x, y, z][j]? = some u → w.cell? ((⟨g, 0, none⟩ : Addr).add j) = some u := by
  intro j u hj
  have e : (⟨g, 0, none⟩ : Addr).add j = ⟨g, j, none⟩ := by simp [Addr.add]; exact fun h => h.symm
  rw [e]
  unfold Bk at h
  simp [World.cell?, h, hj]
section
variable {ops : Array Oper} {rest : List Oper} {o : Oper} {a : Act} {Q : Exit → Act → World → Prop}
theorem appP (w : World) (hgd : o.guard = none) (s x : Operand) (ho : o.op = .call { callee := .builtin .append, args := #[s, x], argTypes := #[23, 23] })
    (base : Nat) (v : Value) (ps : List (Value × Value × Value)) (hs : a.eval s = v) (hown : w.ownsRow base 25 3 v ps.length (plC ps)) (g0 : Nat) (K M : Int) (b : Option Addr) (n c : Nat) (hx : a.eval x = .slice (some ⟨g0, 0, none⟩) 1 1)
    (hc : Bk w g0 #[.int .i64 K, .int .i64 M, .slice b n c] 25) (hl : ps.length ≤ 2000000) (hbase : base ≤ w.heap.size)
    (h : ∀ g cap w', w'.ownsRow base 25 3 (.slice (some ⟨g, 0, none⟩) (ps.length + 1) cap) (ps.length + 1) (plC (ps ++ [(.int .i64 K, .int .i64 M, .slice b n c)])) → w.grownBy w' v.ownBlock → (v.ownBlock = some g ∨ g = w.heap.size) → g < w'.heap.size → wpList Tryd.prog ops Q rest (a.put o.dst (.slice (some ⟨g, 0, none⟩) (ps.length + 1) cap)) w') :
    wpList Tryd.prog ops Q (o :: rest) a w := by
  obtain ⟨i0, hi, hz0, hz1, hz2⟩ := pl_info infoP
  refine wpList_append_lies w hgd s x 23 ho base 25 i0 _ 3 40 Tryd.underlying23 hi hz0 hz1 hz2 rfl (by decide) v ps.length (plC ps) hs hown ⟨g0, 0, none⟩ 1 1 [.int .i64 K, .int .i64 M, .slice b n c] hx rfl (pl_news3 hc) (fun u hu => by simp at hu; rcases hu with rfl | rfl | rfl <;> rfl) (by omega) (by unfold maxLen; omega) (by omega) hbase w.heap.size rfl ?_
  intro g cap w' h1 h2 h3 h4
  refine h g cap w' ?_ h2 h3 h4
  show w'.ownsRow _ _ _ _ _ (plC _)
  simp only [plC, List.flatMap_append] at h1 ⊢
  simpa using h1
end
/-- So many plans, one behind the other. -/
def readK (d : Nat) : Nat → List By → Option (List PT × List By)
  | 0, ws => some ([], ws)
  | j + 1, ws => (readK d j ws).bind fun x => (readW d x.2).bind fun y => some (x.1 ++ [y.1], y.2)
theorem readK_len {d : Nat} : ∀ {j : Nat} {ws : List By} {x : List PT × List By}, readK d j ws = some x → x.1.length = j
  | 0, _, _, h => by cases h; rfl
  | j + 1, ws, x, h => by
    obtain ⟨y, hy, h⟩ := Option.bind_eq_some_iff.1 h
    obtain ⟨z, hz, h⟩ := Option.bind_eq_some_iff.1 h
    cases h
    simp [readK_len hy]
theorem readK_none {d : Nat} {ws : List By} : ∀ {j m : Nat}, j ≤ m → readK d j ws = none → readK d m ws = none
  | j, m, hjm, h => by
    induction m with
    | zero => obtain rfl : j = 0 := by omega
              exact h
    | succ m ih =>
      rcases Nat.lt_or_ge m j with h1 | h1
      · obtain rfl : j = m + 1 := by omega
        exact h
      · simp [readK, ih h1]
theorem readW_kids {d : Nat} {w : By} {ws : List By} {p : Int × Int} (h : lookW w = some p) : readW (d + 1) (w :: ws) = (readK d (kidN p.1).toNat ws).bind fun x => some (mkT p.1 p.2 x.1, x.2) := by
  have hc := cand_kid p (look_some h).2
  rcases hc with h0 | h0 | h0
  · simp [readW, h, h0, readK, mkT]
  · simp only [readW, h, h0, Option.bind_some]
    cases h1 : readW d ws <;> simp [readK, mkT, h1]
  · simp only [readW, h, h0, Option.bind_some]
    cases h1 : readW d ws with
    | none => simp [readK, h1]
    | some x => cases h2 : readW d x.2 <;> simp [readK, mkT, h1, h2]
/-- What readPlan answers: u is a world that lay there ahead, whose words are read. -/
def ReadPost (u : World) (d : Nat) (ws : List By) (w : World) (e : Ending) (w' : World) : Prop :=
  ((∃ t r a n c v, readW d ws = some (t, r) ∧ e = .returned (.tuple #[pl t.k t.n (.slice a n c), v, .bool true]) ∧ KdP (fun g => w.heap.size ≤ g) w' t (.slice a n c) ∧ Wss u v r) ∨ (readW d ws = none ∧ e = .returned (.tuple #[pl 0 0 (.slice none 0 0), .slice none 0 0, .bool false]))) ∧ Below w.heap.size w w'
/-- What holds between two rounds: j Kids are read. -/
structure RdI (u : World) (d : Nat) (ws : List By) (p : Int × Int) (w : World) (b j : Nat) (vr : Value) (wr : World) : Prop where
  le : j ≤ (kidN p.1).toNat
  ps : ∃ l r sl ps, readK d j ws = some (l, r) ∧ Wss u vr r ∧ ps.length = j ∧ Bk wr b #[.int .i64 p.1, .int .i64 p.2, sl] 25 ∧ wr.ownsRow (b + 1) 25 3 sl j (plC ps) ∧ (∀ (i : Nat) (t : PT) (z : Value × Value × Value), l[i]? = some t → ps[i]? = some z → ∃ s, z = plE t s ∧ KdP (fun g => b < g ∧ sl.ownBlock ≠ some g) wr t s)
  box : Bk wr w.heap.size #[.int .i64 0, .int .i64 0, .slice none 0 0] 25
  nine : w.heap.size < b
  bel : Below w.heap.size w wr
theorem rdI_step {u : World} {d : Nat} {ws : List By} {p : Int × Int} {w : World} {b9 k : Nat} {wr W8 w9 : World} {l : List PT} {r r2 : List By} {sl v2 : Value} {ps : List (Value × Value × Value)} {t : PT} {b : Option Addr} {m c g cap : Nat}
    (hlt : k < (kidN p.1).toNat) (hrd : readK d k ws = some (l, r)) (hpl : ps.length = k) (b9k : Bk wr b9 #[.int .i64 p.1, .int .i64 p.2, sl] 25) (hown : wr.ownsRow (b9 + 1) 25 3 sl k (plC ps))
    (hps : ∀ (i : Nat) (t : PT) (z : Value × Value × Value), l[i]? = some t → ps[i]? = some z → ∃ s, z = plE t s ∧ KdP (fun g => b9 < g ∧ sl.ownBlock ≠ some g) wr t s) (box : Bk wr w.heap.size #[.int .i64 0, .int .i64 0, .slice none 0 0] 25) (h9 : w.heap.size < b9) (hb : Below w.heap.size w wr)
    (hb8 : Below wr.heap.size wr W8) (hk : KdP (fun g => wr.heap.size ≤ g) W8 t (.slice b m c)) (hr : readW d r = some (t, r2)) (hv : Wss u v2 r2) (hn : w9.ownsRow (b9 + 1) 25 3 (.slice (some ⟨g, 0, none⟩) (k + 1) cap) (k + 1) (plC (ps ++ [(.int .i64 t.k, .int .i64 t.n, .slice b m c)]))) (hg : W8.grownBy w9 sl.ownBlock) (hor : sl.ownBlock = some g ∨ g = W8.heap.size) :
    RdI u d ws p w b9 (k + 1) v2 (w9.setCell ⟨b9, 2, none⟩ (.slice (some ⟨g, 0, none⟩) (k + 1) cap)) := by
  have hlo := hown.lt
  have h9l := b9k.lt
  have hs8 := hb8.size
  have hll : l.length = k := readK_len hrd
  have hne : sl.ownBlock ≠ some b9 := fun e => by have := (hlo _ e).1; omega
  have hset : ∀ x, x ≠ b9 → (w9.setCell ⟨b9, 2, none⟩ (.slice (some ⟨g, 0, none⟩) (k + 1) cap)).heap[x]? = w9.heap[x]? := fun x hx => Below.heap_setCell _ _ _ _ (by show _ ≠ _; first | exact hx | exact fun e => hx e.symm)
  refine ⟨by omega, ⟨l ++ [t], r2, _, ps ++ [(.int .i64 t.k, .int .i64 t.n, .slice b m c)], by simp [readK, hrd, hr], hv, by simp [hpl], (pl_grew (b9k.keep hb8) hg hne).set 2 _, pl_own_move hn fun x hx _ => hset x (by omega), ?_⟩, ?_, h9, ?_⟩
  · intro j t' z ht hj
    rcases Nat.lt_or_ge j k with h | h
    · rw [List.getElem?_append_left (by omega)] at hj ht
      obtain ⟨s, e, ok⟩ := hps j t' z ht hj
      refine ⟨s, e, ok.move fun q hq hql => ?_⟩
      have x1 : (Value.slice (some ⟨g, 0, none⟩) (k + 1) cap).ownBlock ≠ some q := by
        intro e2
        have e3 : g = q := by simpa [Value.ownBlock] using e2
        subst e3
        rcases hor with h1 | h1
        · exact hq.2 h1
        · omega
      refine ⟨⟨hq.1, x1⟩, ?_⟩
      rw [hset q (by omega), hg.block q (by omega) (fun e => hq.2 e.symm)]; exact hb8.block q hql
    · have hj2 : j = k := by
        have := (List.getElem?_eq_some_iff.1 hj).1
        simp at this; omega
      subst hj2
      rw [List.getElem?_append_right (by omega), hpl, Nat.sub_self] at hj
      rw [List.getElem?_append_right (by omega), hll, Nat.sub_self] at ht
      simp only [List.getElem?_cons_zero, Option.some.injEq] at hj ht
      subst hj
      subst ht
      refine ⟨_, rfl, hk.move fun q hq hql => ?_⟩
      have x1 : (Value.slice (some ⟨g, 0, none⟩) (j + 1) cap).ownBlock ≠ some q := by
        intro e2
        have e3 : g = q := by simpa [Value.ownBlock] using e2
        subst e3
        rcases hor with h1 | h1
        · have := (hlo _ h1).2; omega
        · omega
      refine ⟨⟨by omega, x1⟩, ?_⟩
      rw [hset q (by omega)]; exact hg.block q hql (fun e => by have := (hlo _ e.symm).2; omega)
  · have b2 := pl_grew (box.keep hb8) hg (fun e => by have := (hlo _ e).1; omega)
    unfold Bk
    rw [hset _ (by omega)]; exact b2
  · exact ((bStep hb hb8).grown hg (by have := hb.size; omega) (fun x e => by have := (hlo _ e).1; omega)).setCell (by show _ ≤ b9; omega) _
end Go.Proofs.YtfofchgcbdbikaaDoor
