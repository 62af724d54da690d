/- Reading a plan's words, by the model: facts, and the contract. -/
import Derived.Test.YtfofchgcbdbikaaDoorLq1
namespace Go.Proofs.YtfofchgcbdbikaaDoor
open Go.RowKit Go.Shelf

/-- The first kinds' steps. -/
def foldK (x : By) : Nat → Int × Int
  | 0 => (0, 0)
  | j + 1 => stepK x (foldK x j) ((j + 1 : Nat) : Int)
theorem foldK_six (x : By) : foldK x 6 = kindW x := rfl
theorem pre_take {a x : By} (h : a.length ≤ x.length) : a.isPrefixOf x = (x.take a.length == a) := by
  rw [Bool.eq_iff_iff, List.isPrefixOf_iff_prefix, beq_iff_eq]
  constructor
  · rintro ⟨t, rfl⟩; simp
  · intro e
    have h2 := List.take_append_drop a.length x
    rw [e] at h2
    exact ⟨_, h2⟩
theorem pre_no {a x : By} (h : x.length < a.length) : a.isPrefixOf x = false := by
  rw [← Bool.not_eq_true, List.isPrefixOf_iff_prefix]
  intro h2
  have := h2.length_le
  omega
theorem to_run {s : By} {j : Nat} (hj : j ≤ s.length) (w : World) : (Instr.slice 9 (.string (baS s)) none (some (.int .i64 (j : Int))) none).run Tryd.prog w = .ok (.string (baS (s.take j))) w := by
  rw [run_slice_string_to_if w 9 (baS s) .i64 (j : Int) Tryd.underlying9, if_pos ⟨by omega, by rw [baS_size]; omega⟩]
  simp only [Int.toNat_natCast, baS_ext, List.drop_zero]
/-- So many plans, one behind the other, as the model reads. -/
def l41K (d : Nat) : Nat → List By → List PT × List By
  | 0, ws => ([], ws)
  | j + 1, ws => ((l41K d j ws).1 ++ [(l41T d (l41K d j ws).2).1], (l41T d (l41K d j ws).2).2)
theorem l41K_len {d : Nat} {ws : List By} : ∀ j : Nat, (l41K d j ws).1.length = j
  | 0 => rfl
  | j + 1 => by simp [l41K, l41K_len j]
theorem kidN_some (k : Int) : kidN k = 0 ∨ kidN k = 1 ∨ kidN k = 2 ∨ kidN k = -1 := by
  unfold kidN
  split <;> (try split) <;> (try split) <;> (try split) <;> (try split) <;> (try split) <;> simp
theorem l41T_kids {d : Nat} {w : By} {ws : List By} : l41T (d + 1) (w :: ws) = (mkT (kindW w).1 (kindW w).2 (l41K d (kidN (kindW w).1).toNat ws).1, (l41K d (kidN (kindW w).1).toNat ws).2) := by
  rcases kidN_some (kindW w).1 with h | h | h | h <;> simp [l41T, h, l41K, mkT]
/-- What l41Plan answers. -/
def L41Post (u : World) (d : Nat) (ws : List By) (w : World) (e : Ending) (w' : World) : Prop :=
  (∃ t r a n c v, l41T d ws = (t, r) ∧ e = .returned (.tuple #[pl t.k t.n (.slice a n c), v]) ∧ KdP (fun g => w.heap.size ≤ g) w' t (.slice a n c) ∧ Wss u v r) ∧ Below w.heap.size w w'
/-- What holds between two rounds: j Kids are read. -/
structure RlI (u : World) (d : Nat) (ws : List By) (p : Int × Int) (w : World) (b j : Nat) (vr : Value) (wr : World) : Prop where
  le : j ≤ (kidN p.1).toNat
  ps : ∃ l r sl ps, l41K d j ws = (l, r) ∧ Wss u vr r ∧ ps.length = j ∧ Bk wr b #[.int .i64 p.1, .int .i64 p.2, sl] 25 ∧ wr.ownsRow (b + 1) 25 3 sl j (plC ps) ∧ (∀ (i : Nat) (t : PT) (z : Value × Value × Value), l[i]? = some t → ps[i]? = some z → ∃ s, z = plE t s ∧ KdP (fun g => b < g ∧ sl.ownBlock ≠ some g) wr t s)
  box : Bk wr w.heap.size #[.int .i64 0, .int .i64 0, .slice none 0 0] 25
  nine : w.heap.size < b
  bel : Below w.heap.size w wr
theorem rlI_step {u : World} {d : Nat} {ws : List By} {p : Int × Int} {w : World} {b9 k : Nat} {wr W8 w9 : World} {l : List PT} {r r2 : List By} {sl v2 : Value} {ps : List (Value × Value × Value)} {t : PT} {b : Option Addr} {m c g cap : Nat}
    (hlt : k < (kidN p.1).toNat) (hrd : l41K d k ws = (l, r)) (hpl : ps.length = k) (b9k : Bk wr b9 #[.int .i64 p.1, .int .i64 p.2, sl] 25) (hown : wr.ownsRow (b9 + 1) 25 3 sl k (plC ps))
    (hps : ∀ (i : Nat) (t : PT) (z : Value × Value × Value), l[i]? = some t → ps[i]? = some z → ∃ s, z = plE t s ∧ KdP (fun g => b9 < g ∧ sl.ownBlock ≠ some g) wr t s) (box : Bk wr w.heap.size #[.int .i64 0, .int .i64 0, .slice none 0 0] 25) (h9 : w.heap.size < b9) (hb : Below w.heap.size w wr)
    (hb8 : Below wr.heap.size wr W8) (hk : KdP (fun g => wr.heap.size ≤ g) W8 t (.slice b m c)) (hr : l41T d r = (t, r2)) (hv : Wss u v2 r2) (hn : w9.ownsRow (b9 + 1) 25 3 (.slice (some ⟨g, 0, none⟩) (k + 1) cap) (k + 1) (plC (ps ++ [(.int .i64 t.k, .int .i64 t.n, .slice b m c)]))) (hg : W8.grownBy w9 sl.ownBlock) (hor : sl.ownBlock = some g ∨ g = W8.heap.size) :
    RlI u d ws p w b9 (k + 1) v2 (w9.setCell ⟨b9, 2, none⟩ (.slice (some ⟨g, 0, none⟩) (k + 1) cap)) := by
  have hlo := hown.lt
  have h9l := b9k.lt
  have hs8 := hb8.size
  have hll : l.length = k := by have := l41K_len (d := d) (ws := ws) k; rw [hrd] at this; exact this
  have hne : sl.ownBlock ≠ some b9 := fun e => by have := (hlo _ e).1; omega
  have hset : ∀ x, x ≠ b9 → (w9.setCell ⟨b9, 2, none⟩ (.slice (some ⟨g, 0, none⟩) (k + 1) cap)).heap[x]? = w9.heap[x]? := fun x hx => Below.heap_setCell _ _ _ _ (by show _ ≠ _; first | exact hx | exact fun e => hx e.symm)
  refine ⟨by omega, ⟨l ++ [t], r2, _, ps ++ [(.int .i64 t.k, .int .i64 t.n, .slice b m c)], by simp [l41K, hrd, hr], hv, by simp [hpl], (pl_grew (b9k.keep hb8) hg hne).set 2 _, pl_own_move hn fun x hx _ => hset x (by omega), ?_⟩, ?_, h9, ?_⟩
  · intro j t' z ht hj
    rcases Nat.lt_or_ge j k with h | h
    · rw [List.getElem?_append_left (by omega)] at hj ht
      obtain ⟨s, e, ok⟩ := hps j t' z ht hj
      refine ⟨s, e, ok.move fun q hq hql => ?_⟩
      have x1 : (Value.slice (some ⟨g, 0, none⟩) (k + 1) cap).ownBlock ≠ some q := by
        intro e2
        have e3 : g = q := by simpa [Value.ownBlock] using e2
        subst e3
        rcases hor with h1 | h1
        · exact hq.2 h1
        · omega
      refine ⟨⟨hq.1, x1⟩, ?_⟩
      rw [hset q (by omega), hg.block q (by omega) (fun e => hq.2 e.symm)]; exact hb8.block q hql
    · have hj2 : j = k := by
        have := (List.getElem?_eq_some_iff.1 hj).1
        simp at this; omega
      subst hj2
      rw [List.getElem?_append_right (by omega), hpl, Nat.sub_self] at hj
      rw [List.getElem?_append_right (by omega), hll, Nat.sub_self] at ht
      simp only [List.getElem?_cons_zero, Option.some.injEq] at hj ht
      subst hj
      subst ht
      refine ⟨_, rfl, hk.move fun q hq hql => ?_⟩
      have x1 : (Value.slice (some ⟨g, 0, none⟩) (j + 1) cap).ownBlock ≠ some q := by
        intro e2
        have e3 : g = q := by simpa [Value.ownBlock] using e2
        subst e3
        rcases hor with h1 | h1
        · have := (hlo _ h1).2; omega
        · omega
      refine ⟨⟨by omega, x1⟩, ?_⟩
      rw [hset q (by omega)]; exact hg.block q hql (fun e => by have := (hlo _ e.symm).2; omega)
  · have b2 := pl_grew (box.keep hb8) hg (fun e => by have := (hlo _ e).1; omega)
    unfold Bk
    rw [hset _ (by omega)]; exact b2
  · exact ((bStep hb hb8).grown hg (by have := hb.size; omega) (fun x e => by have := (hlo _ e).1; omega)).setCell (by show _ ≤ b9; omega) _
set_option maxRecDepth 100000 in
set_option maxHeartbeats 4000000 in
theorem l41Plan_no {d : Nat} {ws : List By} {v : Value} {u w : World} (hv : Wss u v ws) (h : d = 0 ∨ ws = []) (hd : d ≤ 4) :
    Calls Tryd.prog 32 #[v, .int .i64 (d : Int)] w (L41Post u d ws w) := by
  have HV := (show Hid (Wss u v ws) from hv)
  obtain ⟨a, c, rfl, -⟩ := hv
  have HB : Hid (Below w.heap.size w (w.alloc (.cells #[.int .i64 0, .int .i64 0, .slice none 0 0] 25))) := bAlloc (Below.refl _ _) _
  have hX : l41T d ws = (.n0 0 0, ws) := by
    rcases h with rfl | rfl
    · rfl
    · cases d <;> rfl
  have HX := (show Hid _ from hX)
  have hc : ((ws.length : Int) == 0) = true ∨ (((ws.length : Int) == 0) = false ∧ (d : Int) < 1) := by
    rcases h with rfl | rfl
    · rcases Nat.eq_zero_or_pos ws.length with e | e
      · left; simp [e]
      · right; exact ⟨by simp; exact List.length_pos_iff.1 e, by decide⟩
    · left; rfl
  clear hX h
  rcases hc with hc | ⟨hc, hc2⟩
  all_goals
    go_enter Tryd.func32, Tryd.ntmps32
    go_wp2_with fail
    refine bodyPost_ret (v := .tuple #[pl 0 0 (.slice none 0 0), .slice a ws.length c]) (by simp [results, Tryd.results32, go_sem]; try rfl) rfl ?_
    exact ⟨⟨_, _, none, 0, 0, _, HX.out, rfl, ⟨_, _, rfl⟩, HV.out⟩, HB.out⟩
end Go.Proofs.YtfofchgcbdbikaaDoor
