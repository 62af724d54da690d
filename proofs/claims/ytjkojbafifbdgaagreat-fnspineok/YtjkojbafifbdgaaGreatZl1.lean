/- Layers as a linked list: add, linked, behind, pairSize, leastPair: the contracts. -/
import Derived.Test.YtjkojbafifbdgaaGreatZl0
import Derived.Test.YtjkojbafifbdgaaGreatZs2
namespace Go.Proofs.YtjkojbafifbdgaaGreat
open Go.RowKit Go.Shelf

/-- Layers as a linked list from p on: rows L in memory of its own. -/
structure Lnk (w : World) (B b : Nat) (p : Value) (gs : List Nat) (vs : List Value) (L : List (List Rw)) : Prop where
  ll : LLs w b p gs vs
  ow : EachO w B vs L
theorem Lnk.keep {w w1 : World} {B b : Nat} {p : Value} {gs : List Nat} {vs : List Value} {L : List (List Rw)} (h : Lnk w B b p gs vs L) (hb : Below w.heap.size w w1) : Lnk w1 B b p gs vs L := ⟨h.ll.keep hb, h.ow.keep hb⟩
theorem EachO.tail {w : World} {B : Nat} {v : Value} {vs : List Value} {l : List Rw} {L : List (List Rw)} (h : EachO w B (v :: vs) (l :: L)) : OwnR w B v l ∧ EachO w B vs L ∧ ∀ q, v.ownBlock = some q → q ∉ vs.filterMap Value.ownBlock := by
  have hn := h.nd
  refine ⟨h.own 0 v l rfl rfl, ⟨by have := h.len; simpa using this, fun i u m h1 h2 => h.own (i + 1) u m (by simpa using h1) (by simpa using h2), fun m hm => h.few m (by simp [hm]), ?_⟩, fun q e hq => ?_⟩
  · rw [List.filterMap_cons] at hn
    split at hn
    · exact hn
    · exact (List.nodup_cons.1 hn).2
  · rw [List.filterMap_cons, e] at hn
    exact (List.nodup_cons.1 hn).1 hq
theorem EachO.cons {w : World} {B : Nat} {v : Value} {vs : List Value} {l : List Rw} {L : List (List Rw)} (h : EachO w B vs L) (hv : OwnR w B v l) (hl : l.length ≤ 1000) (hn : ∀ q, v.ownBlock = some q → q ∉ vs.filterMap Value.ownBlock) : EachO w B (v :: vs) (l :: L) := by
  refine ⟨by simp [h.len], fun i u m h1 h2 => ?_, fun m hm => ?_, ?_⟩
  · cases i with
    | zero => simp at h1 h2; subst h1 h2; exact hv
    | succ i => exact h.own i u m (by simpa using h1) (by simpa using h2)
  · rcases List.mem_cons.1 hm with rfl | hm
    · exact hl
    · exact h.few m hm
  · rw [List.filterMap_cons]
    split
    · exact h.nd
    · rename_i q e
      exact List.nodup_cons.2 ⟨hn q e, h.nd⟩
theorem own_slice {w : World} {B : Nat} {v : Value} {m : List Rw} (h : OwnR w B v ([] ++ m)) (hm : m.length ≤ 1000) : ∃ a c, v = .slice a m.length c := by
  obtain ⟨a, c, e, -⟩ := Rs.open (OwnR.rs h (by simp; omega))
  exact ⟨a, c, by simpa using e⟩
set_option maxRecDepth 100000 in
set_option maxHeartbeats 8000000 in
theorem add_any (u : Value) (m : List Rw) (hm : m.length ≤ 1000) : ∀ (gs : List Nat) (vs : List Value) (B b : Nat) (p : Value) (w : World), LLs w b p gs vs → Rs w u m → B ≤ w.heap.size → b ≤ w.heap.size →
    Calls Tryz.prog 55 #[p, u] w fun e w' => ∃ (p' : Value) (g : Nat) (v : Value), e = .returned p' ∧ LLs w' b p' (gs ++ [g]) (vs ++ [v]) ∧ OwnR w' w.heap.size v m ∧ w.heap.size ≤ g ∧ Kg gs w w' := by
  intro gs
  induction gs with
  | nil =>
    intro vs B b p w hl hR hB hb
    obtain ⟨rfl, rfl⟩ := hl
    obtain ⟨au, cu, rfl, -⟩ := Rs.open hR
    have o0 : OwnR w w.heap.size (.slice none 0 0) [] := ownK_nil _ _ _ _ _
    go_enter Tryz.func55, Tryz.ntmps55
    go_wp2_with (at_builtin; refine appRs _ rfl _ _ rfl w.heap.size _ [] rfl o0 _ m rfl hR (by simp; omega) (Nat.le_refl _) ?_; intro v5 w5 own5 hg5; obtain ⟨a5, c5, rfl⟩ := own_slice own5 hm)
    have hb5 : Below w.heap.size w w5 := Below.grew (Below.refl _ _) hg5 (Nat.le_refl _) (fun q e => by cases e)
    have own6 : OwnR w5 w.heap.size (.slice a5 m.length c5) m := by simpa using own5
    have hs5 := hb5.size
    have HO : Hid (OwnR (w5.alloc (.cells #[.slice a5 m.length c5, .pointer none] 108)) w.heap.size (.slice a5 m.length c5) m) := own6.alloc _
    have HB : Hid (Bk (w5.alloc (.cells #[.slice a5 m.length c5, .pointer none] 108)) w5.heap.size #[.slice a5 m.length c5, .pointer none] 108) := Bk.new _ _ rfl
    have HBl : Hid (Below w.heap.size w (w5.alloc (.cells #[.slice a5 m.length c5, .pointer none] 108))) := bAlloc hb5 _
    clear own5 own6 hg5 hb5
    go_ret
    exact ⟨_, w5.heap.size, _, rfl, ⟨_, _, _, rfl, rfl, by omega, HB.out, rfl, rfl⟩, HO.out, hs5, Kg.of_below HBl.out⟩
  | cons g gs ih =>
    intro vs B b p w hl hR hB hb
    obtain ⟨v, r, q, rfl, rfl, hbg, hbk, hrest⟩ := hl
    have hglt := hbk.lt
    obtain ⟨c0, c1, f0, f1⟩ := hbk.two
    have HI := ih r B (g + 1) q w hrest hR hB (by omega)
    have HR := (show Hid _ from hrest)
    clear hrest ih
    go_enter Tryz.func55, Tryz.ntmps55
    go_wp2_with fail
    refine HI.mono ?_
    rintro e w1 ⟨p1, g1, v1, rfl, hl1, own1, hg1, hk1⟩
    have hgn : g ∉ gs := fun e => by have := (HR.out.blk g e).1; omega
    have hbk1 : Bk w1 g #[v, q] 108 := by unfold Bk; rw [hk1.block g hglt hgn]; exact hbk
    obtain ⟨d0, d1, e0, e1⟩ := hbk1.two
    have hbk2 : Bk (w1.setCell ⟨g, 1, none⟩ p1) g #[v, p1] 108 := by simpa using hbk1.set 1 p1
    have HF : Hid (LLs (w1.setCell ⟨g, 1, none⟩ p1) b (.pointer (some ⟨g, 0, none⟩)) (g :: gs ++ [g1]) (v :: r ++ [v1]) ∧ OwnR (w1.setCell ⟨g, 1, none⟩ p1) w.heap.size v1 m ∧ w.heap.size ≤ g1 ∧ Kg (g :: gs) w (w1.setCell ⟨g, 1, none⟩ p1)) := by
      refine ⟨⟨v, r ++ [v1], p1, rfl, rfl, hbg, hbk2, hl1.mono fun g' hg' => Below.heap_setCell _ _ _ _ (show g' ≠ g from ?_)⟩, ownK_at own1 fun b' e => Below.heap_setCell _ _ _ _ (show b' ≠ g from ?_), hg1, (hk1.mono (fun x hx => by simp [hx])).trans ((Kg.set 1 p1).mono (by simp))⟩
      · have := (hl1.blk g' hg').1; omega
      · have := ownK_base own1 b' e; omega
    obtain ⟨x1, hx1⟩ : ∃ x, p1 = x := ⟨_, rfl⟩
    have hp1 : ∃ a : Option Addr, p1 = .pointer a := by
      cases gs with
      | nil => obtain ⟨_, _, _, _, e, _⟩ := hl1; exact ⟨_, e⟩
      | cons g' gs' => obtain ⟨_, _, _, _, e, _⟩ := hl1; exact ⟨_, e⟩
    obtain ⟨ap, rfl⟩ := hp1
    clear hl1 own1 hk1 hbk1 hbk2 hx1
    go_wp2_with fail
    go_ret
    exact ⟨_, g1, v1, rfl, HF.out.1, HF.out.2.1, HF.out.2.2.1, HF.out.2.2.2⟩
end Go.Proofs.YtjkojbafifbdgaaGreat
