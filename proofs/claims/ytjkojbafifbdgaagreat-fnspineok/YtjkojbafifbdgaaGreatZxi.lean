/- A spine in a box, of a call's own, beside the reader: what is kept. -/
import Derived.Test.YtjkojbafifbdgaaGreatZx0
import Derived.Test.YtjkojbafifbdgaaGreatZc5
namespace Go.Proofs.YtjkojbafifbdgaaGreat
open Go.RowKit Go.Shelf

/-- A spine in a box, of a call's own, beside the reader. -/
structure SpI (B g : Nat) (v : Value) (n : Nat) (w wr : World) (r b M : Nat) (p : Int) (lv fv : Value) (L : List (List Rw)) (F : List (Int × Int)) : Prop where
  box : Bk wr b #[lv, fv] 26
  res : Bk wr r #[.slice none 0 0, .slice none 0 0] 26
  own : SpO wr M lv fv L F
  rd : Rd B wr g v n p
  bx : Bx g w wr
  hr : w.heap.size ≤ r ∧ r ≠ g
  hb : w.heap.size ≤ b ∧ b ≠ g ∧ b ≠ r ∧ B ≤ b
  hM : w.heap.size ≤ M ∧ g < M ∧ M ≤ wr.heap.size
section
variable {B g : Nat} {v : Value} {n : Nat} {w wr w' : World} {r b M : Nat} {p p' : Int} {lv fv : Value} {L : List (List Rw)} {F : List (Int × Int)}
theorem SpI.keepx (h : SpI B g v n w wr r b M p lv fv L F) (hx : Bx g wr w') (hr : Rd B w' g v n p') : SpI B g v n w w' r b M p' lv fv L F :=
  ⟨h.box.keepx hx h.hb.2.1, h.res.keepx hx h.hr.2, h.own.keepx hx h.hM.2.1, hr, h.bx.trans hx, h.hr, h.hb, h.hM.1, h.hM.2.1, Nat.le_trans h.hM.2.2 hx.size⟩
theorem SpI.keep (h : SpI B g v n w wr r b M p lv fv L F) (hb : Below wr.heap.size wr w') : SpI B g v n w w' r b M p lv fv L F :=
  h.keepx (Bx.of_below hb) (h.rd.keepb hb)
theorem SpI.set (h : SpI B g v n w wr r b M p lv fv L F) {lv' fv' : Value} {L' : List (List Rw)} {F' : List (Int × Int)} (hs : SpO wr M lv' fv' L' F') :
    SpI B g v n w ((wr.setCell ⟨b, 0, none⟩ lv').setCell ⟨b, 1, none⟩ fv') r b M p lv' fv' L' F' :=
  have hne : g ≠ b := fun e => h.hb.2.1 e.symm
  have hnr : r ≠ b := fun e => h.hb.2.2.1 e.symm
  ⟨h.box.set01 lv' fv', (h.res.apart (p := ⟨b, 0, none⟩) hnr _).apart (p := ⟨b, 1, none⟩) hnr _, (hs.setBox h.box).setBox (h.box.set 0 lv'),
    (h.rd.apart (q := ⟨b, 0, none⟩) hne h.hb.2.2.2 _).apart (q := ⟨b, 1, none⟩) hne h.hb.2.2.2 _,
    (h.bx.setN (q := ⟨b, 0, none⟩) h.hb.1 _).setN (q := ⟨b, 1, none⟩) h.hb.1 _, h.hr, h.hb, h.hM.1, h.hM.2.1, by simpa [World.setCell] using h.hM.2.2⟩
theorem SpI.spn (h : SpI B g v n w wr r b M p lv fv L F) (hl : L.length ≤ 1000) (hf : F.length ≤ 1000) : Spn wr lv fv L F := h.own.spn (by omega) (by omega)
theorem SpI.ok (h : SpI B g v n w wr r b M p lv fv L F) (hk : spokB L F = true) : Spn wr lv fv L F := by
  obtain ⟨h1, h2, -, -⟩ := spok_iff.1 hk
  have := fok_len h2
  exact h.spn (by omega) (by omega)
theorem SpI.fin (h : SpI B g v n w wr r b M p lv fv L F) : SpO ((wr.setCell ⟨r, 0, none⟩ lv).setCell ⟨r, 1, none⟩ fv) M lv fv L F ∧ Bx g w ((wr.setCell ⟨r, 0, none⟩ lv).setCell ⟨r, 1, none⟩ fv) :=
  ⟨(h.own.setBox h.res).setBox (h.res.set 0 lv), (h.bx.setN (q := ⟨r, 0, none⟩) h.hr.1 _).setN (q := ⟨r, 1, none⟩) h.hr.1 _⟩
theorem SpI.finr (h : SpI B g v n w wr r b M p lv fv L F) (hB : B ≤ r) : Rd B ((wr.setCell ⟨r, 0, none⟩ lv).setCell ⟨r, 1, none⟩ fv) g v n p :=
  have hne : g ≠ r := fun e => h.hr.2 e.symm
  (h.rd.apart (q := ⟨r, 0, none⟩) hne hB _).apart (q := ⟨r, 1, none⟩) hne hB _
theorem SpI.layer {w4 w9 : World} {u nv : Value} {vs : List Value} {l : List Rw} (h : SpI B g v n w w4 r b M p lv fv L F)
    (hov : OwnV w4 M lv vs) (heo : EachO w4 M vs L) (hof : Own w4 M fv F) (hu : OwnR w4 M u l) (hl : l.length ≤ 1000) (hn : ∀ q, u.ownBlock = some q → q ∉ vs.filterMap Value.ownBlock)
    (own9 : OwnV w9 M nv (vs ++ [u])) (hg9 : w4.grownBy w9 lv.ownBlock) : SpI B g v n w (w9.setCell ⟨b, 0, none⟩ nv) r b M p nv fv (L ++ [l]) F := by
  have hne : g ≠ b := fun e => h.hb.2.1 e.symm
  have hnr : r ≠ b := fun e => h.hb.2.2.1 e.symm
  have b9 : Bk w9 b #[lv, fv] 26 := h.box.grew hg9 (fun q e => rows_not_spine hov h.box e)
  refine ⟨by simpa using b9.set 0 nv, (h.res.grew hg9 (fun q e => rows_not_spine hov h.res e)).apart (p := ⟨b, 0, none⟩) hnr _, ?_, ?_, ?_, h.hr, h.hb, h.hM.1, h.hM.2.1, ?_⟩
  · refine SpO.setBox ⟨vs ++ [u], own9, (heo.snoc hu hl hn).grewV hov hg9, ownK_at hof fun q e => hg9.block q (ownK_lt hof q e) fun e2 => time_not_rows hof hov e e2.symm⟩ b9
  · exact (h.rd.grew hg9 (fun q e => by have := ownK_base hov q e; have := h.hM.2.1; omega)).apart (q := ⟨b, 0, none⟩) hne h.hb.2.2.2 _
  · exact (h.bx.grown hg9 (fun q e => by have := ownK_base hov q e; have := h.hM.1; omega)).setN (q := ⟨b, 0, none⟩) h.hb.1 _
  · have := h.hM.2.2; have := hg9.size; simp [World.setCell]; omega
/-- A block that is none of those. -/
def NQ (B g : Nat) (w : World) (r b q : Nat) : Prop := w.heap.size ≤ q ∧ q ≠ g ∧ q ≠ r ∧ q ≠ b ∧ B ≤ q
theorem SpI.nq (h : SpI B g v n w wr r b M p lv fv L F) {q : Nat} (hq : wr.heap.size ≤ q) : NQ B g w r b q := by
  have h1 := h.box.lt
  have h2 := h.res.lt
  have h3 := h.rd.blk.lt
  have h4 := h.hb.2.2.2
  have h5 := h.bx.size
  exact ⟨by omega, by omega, by omega, by omega, by omega⟩
/-- Behind a step that answers a spine and whether: both lie in variables. -/
def SpX (B g : Nat) (v : Value) (n : Nat) (w : World) (r b M : Nat) (p : Int) (lv fv : Value) (L : List (List Rw)) (F : List (Int × Int)) (x o : Value) (wc : World) : Prop :=
  ∃ (q : Nat) (sa sb : Option Addr) (sc sd : Nat) (L4 : List (List Rw)) (F4 : List (Int × Int)) (ok : Bool) (p3 : Int), x = .pointer (some ⟨q, 0, none⟩) ∧ o = .bool ok ∧ Bk wc q #[.slice sa L4.length sc, .slice sb F4.length sd] 26 ∧ SpI B g v n w wc r b M p3 lv fv L F ∧
    SpO wc M (.slice sa L4.length sc) (.slice sb F4.length sd) L4 F4 ∧ p ≤ p3 ∧ p3 ≤ p + 650 ∧ (ok = true → spokB L4 F4 = true ∧ absum L4.flatten ≤ absum L.flatten + 12)
theorem SpX.last {wj : World} {p3 : Int} {sa sb : Option Addr} {sc sd : Nat} {L4 : List (List Rw)} {F4 : List (Int × Int)} {ok : Bool} (h : SpI B g v n w wj r b M p3 lv fv L F) (hs : SpO wj M (.slice sa L4.length sc) (.slice sb F4.length sd) L4 F4) (h1 : p ≤ p3) (h2 : p3 ≤ p + 650)
    (hok : ok = true → spokB L4 F4 = true ∧ absum L4.flatten ≤ absum L.flatten + 12) : SpX B g v n w r b M p lv fv L F (.pointer (some ⟨wj.heap.size, 0, none⟩)) (.bool ok) (wj.alloc (.cells #[.slice sa L4.length sc, .slice sb F4.length sd] 26)) :=
  ⟨_, sa, sb, sc, sd, L4, F4, ok, p3, rfl, rfl, Bk.new _ _ rfl, h.keep (bAlloc (Below.refl _ _) _), hs.keep (bAlloc (Below.refl _ _) _), h1, h2, hok⟩
theorem SpX.put {wj : World} {p3 : Int} {sa sb : Option Addr} {sc sd q : Nat} {L4 : List (List Rw)} {F4 : List (Int × Int)} {ok : Bool} (h : SpI B g v n w wj r b M p3 lv fv L F) (hs : SpO wj M (.slice sa L4.length sc) (.slice sb F4.length sd) L4 F4) (bz : Bk wj q #[.slice none 0 0, .slice none 0 0] 26) (nq : NQ B g w r b q) (h1 : p ≤ p3) (h2 : p3 ≤ p + 650)
    (hok : ok = true → spokB L4 F4 = true ∧ absum L4.flatten ≤ absum L.flatten + 12) : SpX B g v n w r b M p lv fv L F (.pointer (some ⟨q, 0, none⟩)) (.bool ok) ((wj.setCell ⟨q, 0, none⟩ (.slice sa L4.length sc)).setCell ⟨q, 1, none⟩ (.slice sb F4.length sd)) :=
  have hgq : g ≠ q := fun e => nq.2.1 e.symm
  have hrq : r ≠ q := fun e => nq.2.2.1 e.symm
  have hbq : b ≠ q := fun e => nq.2.2.2.1 e.symm
  have hset : ∀ {lv' fv' : Value} {L' : List (List Rw)} {F' : List (Int × Int)}, SpO wj M lv' fv' L' F' → SpO ((wj.setCell ⟨q, 0, none⟩ (.slice sa L4.length sc)).setCell ⟨q, 1, none⟩ (.slice sb F4.length sd)) M lv' fv' L' F' := fun h => (h.setBox bz).setBox (bz.set 0 _)
  ⟨q, sa, sb, sc, sd, L4, F4, ok, p3, rfl, rfl, bz.set01 _ _,
    ⟨(h.box.apart (p := ⟨q, 0, none⟩) hbq _).apart (p := ⟨q, 1, none⟩) hbq _, (h.res.apart (p := ⟨q, 0, none⟩) hrq _).apart (p := ⟨q, 1, none⟩) hrq _, hset h.own,
      (h.rd.apart (q := ⟨q, 0, none⟩) hgq nq.2.2.2.2 _).apart (q := ⟨q, 1, none⟩) hgq nq.2.2.2.2 _, (h.bx.setN (q := ⟨q, 0, none⟩) nq.1 _).setN (q := ⟨q, 1, none⟩) nq.1 _, h.hr, h.hb, h.hM.1, h.hM.2.1, by simpa [World.setCell] using h.hM.2.2⟩,
    hset hs, h1, h2, hok⟩
theorem time_block {v : Value} {l : List (Int × Int)} (h : Own w B v l) {q : Nat} (e : v.ownBlock = some q) : ∃ c : Array Value, Bk w q c 71 := by
  rcases own_open h with ⟨rfl, _⟩ | ⟨g, cap, c, rfl, _, hb, _⟩
  · simp [Value.ownBlock] at e
  · simp [Value.ownBlock] at e; subst e; exact ⟨c, hb⟩
theorem blk_apart {q : Nat} {c d : Array Value} {s t : TypeId} (h : Bk w q c s) (k : Bk w q d t) (hne : s ≠ t) : False := by
  unfold Bk at h k
  rw [h] at k
  cases k
  exact hne rfl
theorem SpI.front {w4 w9 : World} {nv : Value} {t : Int × Int} (h : SpI B g v n w w4 r b M p lv fv L F)
    (hof : Own w4 M fv F) (own9 : Own w9 M nv (F ++ [t])) (hg9 : w4.grownBy w9 fv.ownBlock) : SpI B g v n w (w9.setCell ⟨b, 1, none⟩ nv) r b M p lv nv L (F ++ [t]) := by
  have hne : g ≠ b := fun e => h.hb.2.1 e.symm
  have hnr : r ≠ b := fun e => h.hb.2.2.1 e.symm
  have hns : ∀ q, fv.ownBlock = some q → ∀ (o : Nat) (d : Array Value) (s : TypeId), Bk w4 o d s → s ≠ 71 → o ≠ q := fun q e o d s hd hs e2 => by
    subst e2
    obtain ⟨c, hc⟩ := time_block hof e
    exact blk_apart hd hc hs
  have b9 : Bk w9 b #[lv, fv] 26 := h.box.grew hg9 (fun q e => hns q e _ _ _ h.box (by decide))
  refine ⟨by simpa using b9.set 1 nv, (h.res.grew hg9 (fun q e => hns q e _ _ _ h.res (by decide))).apart (p := ⟨b, 1, none⟩) hnr _, ?_, ?_, ?_, h.hr, h.hb, h.hM.1, h.hM.2.1, ?_⟩
  · obtain ⟨vs, h1, h2, -⟩ := h.own
    refine SpO.setBox ⟨vs, ownK_at h1 fun q e => hg9.block q (ownK_lt h1 q e) fun e2 => ?_, h2.mono fun q c hq => hg9.block q hq.lt fun e2 => hns q e2.symm _ _ _ hq (by decide) rfl, own9⟩ b9
    obtain ⟨c, hc⟩ := rows_block h1 e
    exact hns q e2.symm _ _ _ hc (by decide) rfl
  · exact (h.rd.grew hg9 (fun q e => by have := ownK_base hof q e; have := h.hM.2.1; omega)).apart (q := ⟨b, 1, none⟩) hne h.hb.2.2.2 _
  · exact (h.bx.grown hg9 (fun q e => by have := ownK_base hof q e; have := h.hM.1; omega)).setN (q := ⟨b, 1, none⟩) h.hb.1 _
  · have := h.hM.2.2; have := hg9.size; simp [World.setCell]; omega
end
theorem batch_few (l : List Rw) : (batchL l).length ≤ l.length := by
  unfold batchL; split
  · exact sumF_len l
  · simp
theorem spok_f {L : List (List Rw)} {F : List (Int × Int)} (hk : spokB L F = true) : F.length ≤ 8 := fok_len (spok_iff.1 hk).2.1
theorem since_ok {L : List (List Rw)} {F f : List (Int × Int)} (h : sinceB L F f = true) : spokB (sinceL L F f) (sinceF L F f) = true ∧ sinceL L F f = L := by
  rw [(sinceB_yes h).2.1, (sinceB_yes h).2.2]
  simp only [sinceB, Bool.and_eq_true] at h
  exact ⟨spok_since h.1.1.1 h.1.1.2, rfl⟩
theorem join_ok {L : List (List Rw)} {F : List (Int × Int)} {i : Int} (h : joinB L F i = true) : spokB (joinL L F i) (joinF L F i) = true ∧ absum (joinL L F i).flatten ≤ absum L.flatten := by
  unfold joinL joinF
  rw [if_pos h, if_pos h]
  simp only [joinB, Bool.and_eq_true, decide_eq_true_eq] at h
  exact ⟨h.2, join_abs F (by omega)⟩
theorem in_ok {L : List (List Rw)} {F : List (Int × Int)} {b : List Rw} (h : inB1 L F b = true) : spokB (inLL L F b) (inF L F b) = true ∧ absum (inLL L F b).flatten ≤ absum L.flatten + absum b := by
  unfold inLL inF
  rw [if_pos h, if_pos h]
  simp only [inB1, Bool.and_eq_true] at h
  exact ⟨h.2, in_abs F b⟩
section
variable {ops : Array Oper} {rest : List Oper} {o : Oper} {a : Act} {Kk : Act → World → Prop} {Q : Exit → Act → World → Prop} {E : Prop}
theorem stepT (w : World) (hgd : o.guard = none) (s x : Operand) (ho : o.op = .call { callee := .builtin .append, args := #[s, x], argTypes := #[24, 24] })
    (base : Nat) (v : Value) (l : List (Int × Int)) (hs : a.eval s = v) (hown : Own w base v l) (g0 : Nat) (A B : Int) (hx : a.eval x = .slice (some ⟨g0, 0, none⟩) 1 1)
    (hc : Bk w g0 #[.int .i64 A, .int .i64 B] 71) (hl : l.length ≤ 2000000) (hbase : base ≤ w.heap.size)
    (h : ∀ g cap w', Own w' base (.slice (some ⟨g, 0, none⟩) (l.length + 1) cap) (l ++ [(A, B)]) → w.grownBy w' v.ownBlock → g < w'.heap.size → Kk (a.put o.dst (.slice (some ⟨g, 0, none⟩) (l.length + 1) cap)) w') :
    if Region.wanted o (yielded ops a.tmps) = true then Oper.wp Tryz.prog o a w Kk Q else E := by
  obtain ⟨i0, hi, hz0, hz1, hz2⟩ := info_parts infoT
  refine step_append_lies w hgd s x 24 ho base 71 i0 _ 2 16 Tryz.underlying24 hi hz0 hz1 hz2 rfl (by decide) v l.length (cellsL l) hs hown ⟨g0, 0, none⟩ 1 1 [.int .i64 A, .int .i64 B] hx rfl (newsL hc) (ones2 _ _) (by omega) (by unfold maxLen; omega) (by omega) hbase w.heap.size rfl ?_
  intro g cap w' h1 h2 _ h4
  refine h g cap w' ?_ h2 h4
  show w'.ownsRow _ _ _ _ _ _
  rw [cellsL_snoc]; simpa using h1
end
def lyN (w : World) (b : Nat) : Nat := match w.cell? ⟨b, 0, none⟩ with
  | some (.slice _ n _) => n
  | _ => 0
theorem lyN_eq {w : World} {b : Nat} {a : Option Addr} {n c : Nat} {y : Value} {t : TypeId} (h : Bk w b #[.slice a n c, y] t) : lyN w b = n := by
  unfold lyN; rw [h.two.1]
theorem bk_set0 {w : World} {q : Nat} {x y : Value} {t : TypeId} (h : Bk w q #[x, y] t) (u : Value) : (w.setCell ⟨q, 0, none⟩ u).cell? ⟨q, 0, none⟩ = some u ∧ (w.setCell ⟨q, 0, none⟩ u).cell? ⟨q, 1, none⟩ = some y ∧ (w.setCell ⟨q, 0, none⟩ u).frozen? ⟨q, 0, none⟩ = false ∧ (w.setCell ⟨q, 0, none⟩ u).frozen? ⟨q, 1, none⟩ = false :=
  have h1 : Bk (w.setCell ⟨q, 0, none⟩ u) q #[u, y] t := h.set 0 u
  h1.two
theorem since_ok2 {L : List (List Rw)} {F f : List (Int × Int)} (h : sinceB L F f = true) : spokB (sinceL L F f) (sinceF L F f) = true ∧ absum (sinceL L F f).flatten ≤ absum L.flatten + 12 :=
  ⟨(since_ok h).1, by rw [(since_ok h).2]; omega⟩
theorem join_ok2 {L : List (List Rw)} {F : List (Int × Int)} {i : Int} (h : joinB L F i = true) : spokB (joinL L F i) (joinF L F i) = true ∧ absum (joinL L F i).flatten ≤ absum L.flatten + 12 :=
  ⟨(join_ok h).1, by have := (join_ok h).2; omega⟩
theorem in_ok2 {L : List (List Rw)} {F : List (Int × Int)} {b : List Rw} (h : inB1 L F b = true) (hb : absum b ≤ 12) : spokB (inLL L F b) (inF L F b) = true ∧ absum (inLL L F b).flatten ≤ absum L.flatten + 12 :=
  ⟨(in_ok h).1, by have := (in_ok h).2; omega⟩
end Go.Proofs.YtjkojbafifbdgaaGreat
