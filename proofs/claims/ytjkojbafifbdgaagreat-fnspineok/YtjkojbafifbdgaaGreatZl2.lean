/- Layers as a linked list: linked, behind, pairSize, leastPair: the contracts. -/
import Derived.Test.YtjkojbafifbdgaaGreatZl1
import Derived.BigQuiet
namespace Go.Proofs.YtjkojbafifbdgaaGreat
open Go.RowKit Go.Shelf

theorem LLs.ptr {w : World} {b : Nat} {p : Value} {gs : List Nat} {vs : List Value} (h : LLs w b p gs vs) : ∃ a : Option Addr, p = .pointer a := by
  cases gs with
  | nil => exact ⟨_, h.1⟩
  | cons g gs => obtain ⟨_, _, _, _, e, _⟩ := h; exact ⟨_, e⟩
theorem Kg.trans2 {gs hs : List Nat} {a b c : World} (h : Kg gs a b) (k : Kg hs b c) (hg : ∀ g ∈ hs, a.heap.size ≤ g ∨ g ∈ gs) : Kg gs a c :=
  ⟨k.os.trans h.os, k.tape.trans h.tape, k.output.trans h.output, Nat.le_trans h.size k.size, fun i hi hn => (k.block i (Nat.lt_of_lt_of_le hi h.size) (fun e => by rcases hg i e with e | e; (omega); exact hn e)).trans (h.block i hi hn)⟩
set_option maxRecDepth 100000 in
set_option maxHeartbeats 8000000 in
theorem linked_any (lv : Value) (L : List (List Rw)) (w : World) (h : Ly w lv L) (hf : ∀ l ∈ L, l.length ≤ 1000) :
    Calls Tryz.prog 36 #[lv] w fun e w' => ∃ (p : Value) (gs : List Nat) (vs : List Value), e = .returned p ∧ Lnk w' w.heap.size w.heap.size p gs vs L ∧ Below w.heap.size w w' := by
  obtain ⟨aL, cL, rfl, hc, hm, hn, hcells⟩ := Ly.open h
  unfold maxLen at hm
  have HC := (show Hid _ from hcells)
  have HF := (show Hid (∀ l ∈ L, l.length ≤ 1000) from hf)
  clear hcells h hf
  go_enter Tryz.func36, Tryz.ntmps36
  go_wp2_with fail
  go_loopw [3, 8] (fun p b wr => ∃ (k : Nat) (gs : List Nat) (vs : List Value), k ≤ L.length ∧ b = .int .i64 k ∧ Lnk wr w.heap.size w.heap.size p gs vs (L.take k) ∧ Below w.heap.size w wr) (fun _ b _ => L.length - (intOf b).toNat)
  case atStart => exact ⟨0, [], [], by omega, rfl, ⟨⟨rfl, rfl⟩, EachO.nil _ _⟩, Below.refl _ _⟩
  case round =>
    obtain ⟨k, gs, vs, hk, rfl, hL, hb⟩ := hrel
    have HL := (show Hid (Lnk wr w.heap.size w.heap.size u3 gs vs (L.take k)) from hL)
    obtain ⟨ap, rfl⟩ := hL.ll.ptr
    have hsz := hb.size
    clear hL
    by_cases hlt : k < L.length
    · obtain ⟨g, off, ad, cp, rfl, hg, c0, hR⟩ := HC.out k hlt
      have q0 := cell_below hb c0
      have R1 := hR.keep hb
      have ik : (k : Int) < (L.length : Int) := by omega
      have hgl : (gl L k).length ≤ 1000 := HF.out _ (gl_mem hlt)
      have HZ : Hid (L.take (k + 1) = L.take k ++ [gl L k]) := take_snoc (gl_at hlt)
      clear c0 hR
      go_wp2_with fail
      refine (add_any _ (gl L k) hgl gs vs w.heap.size w.heap.size _ wr HL.out.ll R1 hsz hsz).mono ?_
      rintro e w1 ⟨p1, g1, v1, rfl, hl1, own1, hg1, hk1⟩
      have HN : Hid (Lnk w1 w.heap.size w.heap.size p1 (gs ++ [g1]) (vs ++ [v1]) (L.take (k + 1)) ∧ Below w.heap.size w w1) := by
        have hG : ∀ g ∈ gs, ∃ v q, Bk wr g #[v, q] 108 := fun g hg => (HL.out.ll.blk g hg).2
        have hE := HL.out.ow.kg hk1 hG
        refine ⟨⟨hl1, ?_⟩, hk1.below hb hsz (fun g hg => (HL.out.ll.blk g hg).1)⟩
        rw [HZ.out]
        refine hE.snoc (own_less own1 hsz) hgl fun q e hq => ?_
        have h1 := ownK_base own1 q e
        obtain ⟨c, hc, _⟩ := HL.out.ow.blk hq
        have := hc.lt
        omega
      obtain ⟨ap1, rfl⟩ := hl1.ptr
      clear hl1 own1 hk1
      go_wp2_with fail
      go_roundw
      case rel => exact ⟨k + 1, _, _, by omega, by go_num, HN.out.1, HN.out.2⟩
      case measure => simp [intOf]; omega
    · obtain rfl : k = L.length := by omega
      rw [List.take_length] at HL
      go_wp2_with fail
      go_ret
      exact ⟨_, gs, vs, rfl, HL.out, hb⟩
end Go.Proofs.YtjkojbafifbdgaaGreat
