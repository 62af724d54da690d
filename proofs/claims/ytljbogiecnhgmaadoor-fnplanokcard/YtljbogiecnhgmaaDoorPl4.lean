/- A plan as one that is ok: how it lies in memory, and its round. -/
import Derived.Test.YtljbogiecnhgmaaDoorPl3
import Derived.Deep.AppendLies
namespace Go.Proofs.YtljbogiecnhgmaaDoor
open Go.RowKit Go.Shelf

/-- A kind's own type. -/
def kT (k : Int) : Nat := if k = 1 then 70 else if k = 2 then 71 else if k = 3 then 72 else if k = 4 then 73 else if k = 5 then 74 else 75
theorem kind_of {k : Int} (h : inB k 1 6 = true) : ∃ F, KindIs k (kT k) F := by
  have h2 : 1 ≤ k ∧ k ≤ 6 := by simpa [inB] using h
  have : k = 1 ∨ k = 2 ∨ k = 3 ∨ k = 4 ∨ k = 5 ∨ k = 6 := by omega
  rcases this with rfl | rfl | rfl | rfl | rfl | rfl
  · exact ⟨_, kind_in⟩
  · exact ⟨_, kind_each⟩
  · exact ⟨_, kind_both⟩
  · exact ⟨_, kind_less⟩
  · exact ⟨_, kind_join⟩
  · exact ⟨_, kind_sum⟩
abbrev kiV (t : PT) : Value := .iface (kT t.k) (.int .i64 t.n)
/-- The slice of the parts of a plan that is ok, in blocks that p lets by. -/
def OkS (p : Nat → Prop) (w : World) : PT → Value → Prop
  | .n0 _ _, s => ∃ a c, s = .slice a 0 c
  | .n1 _ _ x, s => ∃ g c sx, s = .slice (some ⟨g, 0, none⟩) 1 c ∧ p g ∧ w.cell? ⟨g, 0, none⟩ = some (kiV x) ∧ w.cell? ⟨g, 1, none⟩ = some sx ∧ OkS p w x sx
  | .n2 _ _ x y, s => ∃ g c sx sy, s = .slice (some ⟨g, 0, none⟩) 2 c ∧ p g ∧ w.cell? ⟨g, 0, none⟩ = some (kiV x) ∧ w.cell? ⟨g, 1, none⟩ = some sx ∧ w.cell? ⟨g, 2, none⟩ = some (kiV y) ∧ w.cell? ⟨g, 3, none⟩ = some sy ∧ OkS p w x sx ∧ OkS p w y sy
theorem OkS.sl {p : Nat → Prop} {w : World} {t : PT} {s : Value} (h : OkS p w t s) : ∃ a c, s = .slice a t.len c := by
  cases t with
  | n0 k n => obtain ⟨a, c, rfl⟩ := h; exact ⟨_, _, rfl⟩
  | n1 k n x => obtain ⟨g, c, sx, rfl, _⟩ := h; exact ⟨_, _, rfl⟩
  | n2 k n x y => obtain ⟨g, c, sx, sy, rfl, _⟩ := h; exact ⟨_, _, rfl⟩
theorem cell_at {w w' : World} {g i : Nat} {v : Value} (e : w'.heap[g]? = w.heap[g]?) (h : w.cell? ⟨g, i, none⟩ = some v) : w'.cell? ⟨g, i, none⟩ = some v := by
  rw [World.cell?_of_block (w := w) e]; exact h
theorem OkS.move {p q : Nat → Prop} {w w' : World} (H : ∀ g, p g → g < w.heap.size → q g ∧ w'.heap[g]? = w.heap[g]?) : ∀ {t : PT} {s : Value}, OkS p w t s → OkS q w' t s
  | .n0 _ _, _, h => h
  | .n1 _ _ _, _, ⟨g, c, sx, e, hp, h1, h2, h3⟩ => ⟨g, c, sx, e, (H g hp (lt_of_cell h1)).1, cell_at (H g hp (lt_of_cell h1)).2 h1, cell_at (H g hp (lt_of_cell h1)).2 h2, OkS.move H h3⟩
  | .n2 _ _ _ _, _, ⟨g, c, sx, sy, e, hp, h1, h2, h3, h4, h5, h6⟩ => ⟨g, c, sx, sy, e, (H g hp (lt_of_cell h1)).1, cell_at (H g hp (lt_of_cell h1)).2 h1, cell_at (H g hp (lt_of_cell h1)).2 h2, cell_at (H g hp (lt_of_cell h1)).2 h3, cell_at (H g hp (lt_of_cell h1)).2 h4, OkS.move H h5, OkS.move H h6⟩
abbrev psC (ps : List (Value × Value)) : List Value := ps.flatMap fun p => [p.1, p.2]
theorem okS_of {p q : Nat → Prop} {w : World} {B : Nat} {t : PT} {sl : Value} {ps : List (Value × Value)} (ho : w.ownsRow B 43 2 sl t.len (psC ps)) (hl : ps.length = t.len)
    (hk : ∀ j a s, ps[j]? = some (a, s) → a = kiV (t.kid j) ∧ OkS p w (t.kid j) s) (hq : ∀ g, B ≤ g → q g) (hpq : ∀ g, p g → q g) : OkS q w t sl := by
  have hm : ∀ {x : PT} {s : Value}, OkS p w x s → OkS q w x s := OkS.move fun g h _ => ⟨hpq g h, rfl⟩
  have hh := ho
  obtain ⟨_, ⟨rfl, h0⟩ | ⟨g, cap, cur, rfl, hg, _⟩⟩ := ho
  · cases t with
    | n0 k n => exact ⟨_, _, rfl⟩
    | n1 k n x => simp [PT.len] at h0
    | n2 k n x y => simp [PT.len] at h0
  · have ha := fun i (hi : i < t.len * 2) => hh.cellAt i hi
    cases t with
    | n0 k n => exact ⟨_, _, rfl⟩
    | n1 k n x =>
      obtain ⟨⟨a, s⟩, rfl⟩ : ∃ z, ps = [z] := by
        match ps, hl with
        | [z], _ => exact ⟨z, rfl⟩
      obtain ⟨e, ok⟩ := hk 0 a s rfl
      refine ⟨g, cap, s, rfl, hq g hg, ?_, ?_, hm ok⟩
      · rw [ha 0 (by simp [PT.len])]; simp [e, PT.kid]
      · rw [ha 1 (by simp [PT.len])]; simp
    | n2 k n x y =>
      obtain ⟨⟨a, s⟩, ⟨b, s'⟩, rfl⟩ : ∃ z z', ps = [z, z'] := by
        match ps, hl with
        | [z, z'], _ => exact ⟨z, z', rfl⟩
      obtain ⟨e, ok⟩ := hk 0 a s rfl
      obtain ⟨e', ok'⟩ := hk 1 b s' rfl
      refine ⟨g, cap, s, s', rfl, hq g hg, ?_, ?_, ?_, ?_, hm ok, hm ok'⟩
      · rw [ha 0 (by simp [PT.len])]; simp [e, PT.kid]
      · rw [ha 1 (by simp [PT.len])]; simp
      · rw [ha 2 (by simp [PT.len])]; simp [e', PT.kid]
      · rw [ha 3 (by simp [PT.len])]; simp
theorem pl_info {P : Program} {t : TypeId} {z : Value} {a b : Nat} (h : (P.info? t).map (fun i => (i.zero, i.size, i.bytes)) = some (some z, a, b)) : ∃ i, P.info? t = some i ∧ i.zero = some z ∧ i.size = a ∧ i.bytes = b := by
  obtain ⟨i, hi, he⟩ := Option.map_eq_some_iff.1 h
  simp only [Prod.mk.injEq] at he
  exact ⟨i, hi, he.1, he.2.1, he.2.2⟩
theorem infoO : (Tryd.prog.info? 43).map (fun i => (i.zero, i.size, i.bytes)) = some (some (.agg #[.nilIface, .slice none 0 0]), 2, 40) := by kernel_rfl
theorem pl_news {w : World} {g : Nat} {x y : Value} {t : TypeId} (h : Bk w g #[x, y] t) : ∀ j u, [x, y][j]? = some u → w.cell? ((⟨g, 0, none⟩ : Addr).add j) = some u := by
  intro j u hj
  have e : (⟨g, 0, none⟩ : Addr).add j = ⟨g, j, none⟩ := by simp [Addr.add]; exact fun h => h.symm
  rw [e]
  unfold Bk at h
  simp [World.cell?, h, hj]
section
variable {ops : Array Oper} {rest : List Oper} {o : Oper} {a : Act} {Q : Exit → Act → World → Prop}
theorem appO (w : World) (hgd : o.guard = none) (s x : Operand) (ho : o.op = .call { callee := .builtin .append, args := #[s, x], argTypes := #[41, 41] })
    (base : Nat) (v : Value) (ps : List (Value × Value)) (hs : a.eval s = v) (hown : w.ownsRow base 43 2 v ps.length (psC ps)) (g0 : Nat) (kv : TypeId) (kn : Value) (b : Option Addr) (n c : Nat) (hx : a.eval x = .slice (some ⟨g0, 0, none⟩) 1 1)
    (hc : Bk w g0 #[.iface kv kn, .slice b n c] 43) (hl : ps.length ≤ 2000000) (hbase : base ≤ w.heap.size)
    (h : ∀ g cap w', w'.ownsRow base 43 2 (.slice (some ⟨g, 0, none⟩) (ps.length + 1) cap) (ps.length + 1) (psC (ps ++ [(.iface kv kn, .slice b n c)])) → w.grownBy w' v.ownBlock → (v.ownBlock = some g ∨ g = w.heap.size) → g < w'.heap.size → wpList Tryd.prog ops Q rest (a.put o.dst (.slice (some ⟨g, 0, none⟩) (ps.length + 1) cap)) w') :
    wpList Tryd.prog ops Q (o :: rest) a w := by
  obtain ⟨i0, hi, hz0, hz1, hz2⟩ := pl_info infoO
  refine wpList_append_lies w hgd s x 41 ho base 43 i0 _ 2 40 Tryd.underlying41 hi hz0 hz1 hz2 rfl (by decide) v ps.length (psC ps) hs hown ⟨g0, 0, none⟩ 1 1 [.iface kv kn, .slice b n c] hx rfl (pl_news hc) (fun u hu => by simp at hu; rcases hu with rfl | rfl <;> rfl) (by omega) (by unfold maxLen; omega) (by omega) hbase w.heap.size rfl ?_
  intro g cap w' h1 h2 h3 h4
  refine h g cap w' ?_ h2 h3 h4
  show w'.ownsRow _ _ _ _ _ (psC _)
  simp only [psC, List.flatMap_append] at h1 ⊢
  simpa using h1
end
set_option maxRecDepth 100000 in
set_option maxHeartbeats 16000000 in
theorem okPlan_none (ea : Addr) {k n : Int} {s : Value} (hsl : ∃ a m c, s = .slice a m c) {w : World} {deep : Int} (hk : k < 1 ∨ 6 < k) (hg : w.cell? ⟨0, 0, none⟩ = some (erV ea)) :
    Calls Tryd.prog 13 #[pl k n s, .int .i64 deep] w fun e w' => e = .returned (.tuple #[okZ, erV ea]) ∧ Below w.heap.size w w' := by
  obtain ⟨a, m, c, rfl⟩ := hsl
  have bP : Bk ((w.alloc (.cells #[.int .i64 k, .int .i64 n, .slice a m c] 25)).alloc (.cells #[.nilIface, .slice none 0 0] 43)) w.heap.size #[.int .i64 k, .int .i64 n, .slice a m c] 25 := (Bk.new _ _ rfl).alloc _
  have bR : Bk ((w.alloc (.cells #[.int .i64 k, .int .i64 n, .slice a m c] 25)).alloc (.cells #[.nilIface, .slice none 0 0] 43)) (w.heap.size + 1) #[.nilIface, .slice none 0 0] 43 := Bk.new _ _ (by simp)
  have hb0 : Below w.heap.size w ((w.alloc (.cells #[.int .i64 k, .int .i64 n, .slice a m c] 25)).alloc (.cells #[.nilIface, .slice none 0 0] 43)) := bAlloc (bAlloc (Below.refl _ _) _) _
  have hg0 := cell_below hb0 hg
  obtain ⟨x0, x1, x2⟩ := bP.three'
  go_enter Tryd.func13, Tryd.ntmps13
  go_wp2_with fail
  generalize ((w.alloc (.cells #[.int .i64 k, .int .i64 n, .slice a m c] 25)).alloc (.cells #[.nilIface, .slice none 0 0] 43)) = W0 at *
  refine (kind_none ea k n _ _ hk hg0).mono ?_
  rintro e w1 ⟨rfl, hb1⟩
  have bR1 := bR.keep hb1
  have hbw1 := bStep hb0 hb1
  clear x0 x1 x2 bP bR hb0 hb1
  obtain ⟨r0, r1, f0, f1⟩ := bR1.two
  have bo := (bR1.set01 .nilIface (.slice none 0 0))
  have hbo : Below w.heap.size w ((w1.setCell ⟨w.heap.size + 1, 0, none⟩ .nilIface).setCell ⟨w.heap.size + 1, 1, none⟩ (.slice none 0 0)) := ((hbw1.setCell (by simp) _).setCell (by simp) _)
  obtain ⟨y0, y1, _, _⟩ := bo.two
  go_wp2_with fail
  refine bodyPost_ret (v := .tuple #[okZ, erV ea]) (by simp [results, Tryd.results13, go_sem, y0, y1]; try rfl) rfl ?_
  exact ⟨rfl, hbo⟩
end Go.Proofs.YtljbogiecnhgmaaDoor
