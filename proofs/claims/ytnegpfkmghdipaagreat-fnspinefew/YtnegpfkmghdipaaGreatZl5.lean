/- Layers as a linked list: pairSize, leastPair: the contracts. -/
import Derived.Test.YtnegpfkmghdipaaGreatZl4
namespace Go.Proofs.YtnegpfkmghdipaaGreat
open Go.RowKit Go.Shelf

set_option maxHeartbeats 4000000 in
theorem pairSize_any (g g' : Nat) (a a' : Option Addr) (n n' c c' : Nat) (q : Value) (w : World) (h : Bk w g #[.slice a n c, .pointer (some ⟨g', 0, none⟩)] 105) (h' : Bk w g' #[.slice a' n' c', q] 105) (hn : n ≤ 1000) (hn' : n' ≤ 1000) :
    Calls Tryz.prog 85 #[.pointer (some ⟨g, 0, none⟩)] w fun e w' => e = .returned (.int .i64 ((n + n' : Nat) : Int)) ∧ Below w.heap.size w w' := by
  obtain ⟨c0, c1, _, _⟩ := h.two
  obtain ⟨d0, d1, _, _⟩ := h'.two
  go_enter Tryz.func85, Tryz.ntmps85
  go_wp2_with fail
  go_quiet (fail)
  go_wp2_with fail
  go_ret
  exact ⟨by go_num, ⟨rfl, rfl, rfl, Nat.le_refl _, fun _ _ => rfl⟩⟩
set_option maxRecDepth 100000 in
set_option maxHeartbeats 8000000 in
theorem leastPair_any (p : Value) (gs : List Nat) (vs : List Value) (L : List (List Rw)) (B b : Nat) (w : World) (h : Lnk w B b p gs vs L) (h2 : 2 ≤ L.length) :
    Calls Tryz.prog 47 #[p] w fun e w' => e = .returned (nxt gs (bestL L)) ∧ Below w.heap.size w w' := by
  obtain ⟨hlen, rfl, hcells⟩ := h.look
  have HA := (show Hid (gs.Pairwise (· < ·)) from h.ll.asc)
  have HC := (show Hid _ from hcells)
  clear hcells h
  obtain ⟨g0, a0, c0, e0, -, -, hb0, -⟩ := HC.out 0 (by omega)
  obtain ⟨g1, a1, c1, e1, -, -, -, -⟩ := HC.out 1 (by omega)
  have E0 := (show Hid (nxt gs 0 = .pointer (some ⟨g0, 0, none⟩)) from nxt_at e0)
  have E1 := (show Hid (nxt gs 1 = .pointer (some ⟨g1, 0, none⟩)) from nxt_at e1)
  rw [E0.out]
  rw [show (0 + 1) = 1 from rfl, E1.out] at hb0
  obtain ⟨s0, s1, _, _⟩ := hb0.two
  clear hb0 e0 e1
  go_enter Tryz.func47, Tryz.ntmps47
  go_wp2_with fail
  go_loopw [3, 4] (fun l o wr => ∃ k : Nat, 1 ≤ k ∧ k + 1 ≤ L.length ∧ l = nxt gs (bestTo L (k - 1)) ∧ o = nxt gs k ∧ Below w.heap.size w wr) (fun _ o _ => w.heap.size - ptrN o)
  case atStart => exact ⟨1, by omega, by omega, E0.out.symm, E1.out.symm, Below.refl _ _⟩
  case round =>
    clear s0 s1
    obtain ⟨k, hk1, hk, rfl, rfl, hb⟩ := hrel
    obtain ⟨g, a, c, eg, -, hn, hbg, -⟩ := HC.out k (by omega)
    have hbg' := hbg.keep hb
    have EG := (show Hid (nxt gs k = .pointer (some ⟨g, 0, none⟩)) from nxt_at eg)
    have hbl := best_le L (k - 1)
    obtain ⟨gb, ab, cb, egb, -, hnb, hbb, -⟩ := HC.out (bestTo L (k - 1)) (by omega)
    have EB := (show Hid (nxt gs (bestTo L (k - 1)) = .pointer (some ⟨gb, 0, none⟩)) from nxt_at egb)
    rw [EG.out, EB.out]
    by_cases hlt : k + 1 < L.length
    · obtain ⟨g', a', c', eg', -, hn', hbg2, -⟩ := HC.out (k + 1) hlt
      have hasc : g < g' := asc_lt HA.out (Nat.lt_succ_self k) eg eg'
      have hglt : g' < w.heap.size := hbg2.lt
      have EN := (show Hid (nxt gs (k + 1) = .pointer (some ⟨g', 0, none⟩)) from nxt_at eg')
      rw [EN.out] at hbg'
      obtain ⟨s0, s1, _, _⟩ := hbg'.two
      obtain ⟨gc, ac, cc, egc, -, hnc, hbc, -⟩ := HC.out (bestTo L (k - 1) + 1) (by omega)
      rw [nxt_at egc] at hbb
      have hbb' := hbb.keep hb
      have hbc' := hbc.keep hb
      have hbg2' := hbg2.keep hb
      have HP : Hid (∀ Z, bestTo L (k + 1 - 1) = Z ↔ (if prN L k < prN L (bestTo L (k - 1)) then k else bestTo L (k - 1)) = Z) := fun Z => by
        obtain ⟨k0, rfl⟩ : ∃ k0, k = k0 + 1 := ⟨k - 1, by omega⟩
        simp only [Nat.add_sub_cancel]
        rfl
      have HQ : Hid (prN L k = (gl L k).length + (gl L (k + 1)).length ∧ prN L (bestTo L (k - 1)) = (gl L (bestTo L (k - 1))).length + (gl L (bestTo L (k - 1) + 1)).length) := ⟨rfl, rfl⟩
      clear hbg hbb hbc hbg2 eg eg' egb egc
      generalize hL1 : (gl L k).length = n1 at *
      generalize hL2 : (gl L (k + 1)).length = n2 at *
      generalize hL3 : (gl L (bestTo L (k - 1))).length = n3 at *
      generalize hL4 : (gl L (bestTo L (k - 1) + 1)).length = n4 at *
      by_cases hq : n1 + n2 < n3 + n4
      · have HZ : Hid (nxt gs (bestTo L (k + 1 - 1)) = .pointer (some ⟨g, 0, none⟩)) := by
          show _ = _
          rw [(HP.out k).2 (if_pos (by rw [HQ.out.1, HQ.out.2]; exact hq))]; exact EG.out
        have iq : ((n1 + n2 : Nat) : Int) < ((n3 + n4 : Nat) : Int) := by omega
        go_wp2_with fail
        refine (pairSize_any g g' a a' n1 n2 c c' _ wr hbg' hbg2' hn hn').mono ?_
        rintro e w1 ⟨rfl, hb1⟩
        have hb2 := bStep hb hb1
        have q1 := hbb'.keep hb1
        have q2 := hbc'.keep hb1
        have q3 := hbg'.keep hb1
        clear s0 s1 hbb' hbc' hbg' hbg2'
        go_wp2_with fail
        refine (pairSize_any gb gc ab ac n3 n4 cb cc _ w1 q1 q2 hnb hnc).mono ?_
        rintro e w2 ⟨rfl, hb3⟩
        have hb4 := bStep hb2 hb3
        obtain ⟨r0, r1, _, _⟩ := (q3.keep hb3).two
        clear q1 q2 q3 hb1 hb2 hb3 hb
        generalize hN1 : ((n1 + n2 : Nat) : Int) = N1 at *
        generalize hN2 : ((n3 + n4 : Nat) : Int) = N2 at *
        go_wp2_with fail
        go_roundw
        case rel => exact ⟨k + 1, by omega, by omega, HZ.out.symm, EN.out.symm, hb4⟩
        case measure => simp [ptrN]; omega
      · have HZ : Hid (nxt gs (bestTo L (k + 1 - 1)) = .pointer (some ⟨gb, 0, none⟩)) := by
          show _ = _
          rw [(HP.out _).2 (if_neg (by rw [HQ.out.1, HQ.out.2]; exact hq))]; exact EB.out
        have iq : ¬ ((n1 + n2 : Nat) : Int) < ((n3 + n4 : Nat) : Int) := by omega
        go_wp2_with fail
        refine (pairSize_any g g' a a' n1 n2 c c' _ wr hbg' hbg2' hn hn').mono ?_
        rintro e w1 ⟨rfl, hb1⟩
        have hb2 := bStep hb hb1
        have q1 := hbb'.keep hb1
        have q2 := hbc'.keep hb1
        have q3 := hbg'.keep hb1
        clear s0 s1 hbb' hbc' hbg' hbg2'
        go_wp2_with fail
        refine (pairSize_any gb gc ab ac n3 n4 cb cc _ w1 q1 q2 hnb hnc).mono ?_
        rintro e w2 ⟨rfl, hb3⟩
        have hb4 := bStep hb2 hb3
        obtain ⟨r0, r1, _, _⟩ := (q3.keep hb3).two
        clear q1 q2 q3 hb1 hb2 hb3 hb
        generalize hN1 : ((n1 + n2 : Nat) : Int) = N1 at *
        generalize hN2 : ((n3 + n4 : Nat) : Int) = N2 at *
        go_wp2_with fail
        go_roundw
        case rel => exact ⟨k + 1, by omega, by omega, HZ.out.symm, EN.out.symm, hb4⟩
        case measure => simp [ptrN]; omega
    · have HE : Hid (bestL L = bestTo L (k - 1)) := by show _ = _; unfold bestL; congr 1; omega
      rw [nxt_end (gs := gs) (k := k + 1) (by omega)] at hbg'
      obtain ⟨s0, s1, _, _⟩ := hbg'.two
      clear hbg hbb hbg'
      go_wp2_with fail
      go_ret
      exact ⟨by rw [HE.out, EB.out]; rfl, hb⟩
end Go.Proofs.YtnegpfkmghdipaaGreat
