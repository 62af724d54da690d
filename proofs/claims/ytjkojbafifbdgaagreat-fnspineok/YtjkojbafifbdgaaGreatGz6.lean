/- Layers as a linked list: pairSize, leastPair: the contracts. -/
import Derived.Test.YtjkojbafifbdgaaGreatZl4
import Derived.Test.YtjkojbafifbdgaaGreatZk3
import Derived.Test.YtjkojbafifbdgaaGreatZk5
import Derived.Test.YtjkojbafifbdgaaGreatGd3
/-! Layers as a linked list: pairSize, leastPair: the contracts. -/
namespace Go.Proofs.YtjkojbafifbdgaaGreat
open Go.RowKit Go.Shelf

set_option maxHeartbeats 4000000 in
theorem pairSize_any (g g' : Nat) (a a' : Option Addr) (n n' c c' : Nat) (q : Value) (w : World) (h : Bk w g #[.slice a n c, .pointer (some ⟨g', 0, none⟩)] 108) (h' : Bk w g' #[.slice a' n' c', q] 108) (hn : n ≤ 1000) (hn' : n' ≤ 1000) :
    Calls Tryz.prog 97 #[.pointer (some ⟨g, 0, none⟩)] w fun e w' => e = .returned (.int .i64 ((n + n' : Nat) : Int)) ∧ Below w.heap.size w w' := by
  obtain ⟨c0, c1, _, _⟩ := h.two
  obtain ⟨d0, d1, _, _⟩ := h'.two
  go_enter Tryz.func97, Tryz.ntmps97
  go_wp2_with fail
  go_quiet (fail)
  go_wp2_with fail
  go_ret
  exact ⟨by go_num, ⟨rfl, rfl, rfl, Nat.le_refl _, fun _ _ => rfl⟩⟩
set_option maxRecDepth 100000 in
set_option maxHeartbeats 8000000 in
theorem leastPair_any (p : Value) (gs : List Nat) (vs : List Value) (L : List (List Rw)) (B b : Nat) (w : World) (h : Lnk w B b p gs vs L) (h2 : 2 ≤ L.length) :
    Calls Tryz.prog 54 #[p] w fun e w' => e = .returned (nxt gs (bestL L)) ∧ Below w.heap.size w w' := by
  obtain ⟨hlen, rfl, hcells⟩ := h.look
  have HA := (show Hid (gs.Pairwise (· < ·)) from h.ll.asc)
  have HC := (show Hid _ from hcells)
  clear hcells h
  obtain ⟨g0, a0, c0, e0, -, -, hb0, -⟩ := HC.out 0 (by omega)
  obtain ⟨g1, a1, c1, e1, -, -, -, -⟩ := HC.out 1 (by omega)
  have E0 := (show Hid (nxt gs 0 = .pointer (some ⟨g0, 0, none⟩)) from nxt_at e0)
  have E1 := (show Hid (nxt gs 1 = .pointer (some ⟨g1, 0, none⟩)) from nxt_at e1)
  rw [E0.out]
  rw [show (0 + 1) = 1 from rfl, E1.out] at hb0
  obtain ⟨s0, s1, _, _⟩ := hb0.two
  clear hb0 e0 e1
  go_enter Tryz.func54, Tryz.ntmps54
  go_wp2_with fail
  go_loopw [3, 4] (fun l o wr => ∃ k : Nat, 1 ≤ k ∧ k + 1 ≤ L.length ∧ l = nxt gs (bestTo L (k - 1)) ∧ o = nxt gs k ∧ Below w.heap.size w wr) (fun _ o _ => w.heap.size - ptrN o)
  case atStart => exact ⟨1, by omega, by omega, E0.out.symm, E1.out.symm, Below.refl _ _⟩
  case round =>
    clear s0 s1
    obtain ⟨k, hk1, hk, rfl, rfl, hb⟩ := hrel
    obtain ⟨g, a, c, eg, -, hn, hbg, -⟩ := HC.out k (by omega)
    have hbg' := hbg.keep hb
    have EG := (show Hid (nxt gs k = .pointer (some ⟨g, 0, none⟩)) from nxt_at eg)
    have hbl := best_le L (k - 1)
    obtain ⟨gb, ab, cb, egb, -, hnb, hbb, -⟩ := HC.out (bestTo L (k - 1)) (by omega)
    have EB := (show Hid (nxt gs (bestTo L (k - 1)) = .pointer (some ⟨gb, 0, none⟩)) from nxt_at egb)
    rw [EG.out, EB.out]
    by_cases hlt : k + 1 < L.length
    · obtain ⟨g', a', c', eg', -, hn', hbg2, -⟩ := HC.out (k + 1) hlt
      have hasc : g < g' := asc_lt HA.out (Nat.lt_succ_self k) eg eg'
      have hglt : g' < w.heap.size := hbg2.lt
      have EN := (show Hid (nxt gs (k + 1) = .pointer (some ⟨g', 0, none⟩)) from nxt_at eg')
      rw [EN.out] at hbg'
      obtain ⟨s0, s1, _, _⟩ := hbg'.two
      obtain ⟨gc, ac, cc, egc, -, hnc, hbc, -⟩ := HC.out (bestTo L (k - 1) + 1) (by omega)
      rw [nxt_at egc] at hbb
      have hbb' := hbb.keep hb
      have hbc' := hbc.keep hb
      have hbg2' := hbg2.keep hb
      have HP : Hid (∀ Z, bestTo L (k + 1 - 1) = Z ↔ (if prN L k < prN L (bestTo L (k - 1)) then k else bestTo L (k - 1)) = Z) := fun Z => by
        obtain ⟨k0, rfl⟩ : ∃ k0, k = k0 + 1 := ⟨k - 1, by omega⟩
        simp only [Nat.add_sub_cancel]
        rfl
      have HQ : Hid (prN L k = (gl L k).length + (gl L (k + 1)).length ∧ prN L (bestTo L (k - 1)) = (gl L (bestTo L (k - 1))).length + (gl L (bestTo L (k - 1) + 1)).length) := ⟨rfl, rfl⟩
      clear hbg hbb hbc hbg2 eg eg' egb egc
      generalize hL1 : (gl L k).length = n1 at *
      generalize hL2 : (gl L (k + 1)).length = n2 at *
      generalize hL3 : (gl L (bestTo L (k - 1))).length = n3 at *
      generalize hL4 : (gl L (bestTo L (k - 1) + 1)).length = n4 at *
      by_cases hq : n1 + n2 < n3 + n4
      · have HZ : Hid (nxt gs (bestTo L (k + 1 - 1)) = .pointer (some ⟨g, 0, none⟩)) := by
          show _ = _
          rw [(HP.out k).2 (if_pos (by rw [HQ.out.1, HQ.out.2]; exact hq))]; exact EG.out
        have iq : ((n1 + n2 : Nat) : Int) < ((n3 + n4 : Nat) : Int) := by omega
        go_wp2_with fail
        refine (pairSize_any g g' a a' n1 n2 c c' _ wr hbg' hbg2' hn hn').mono ?_
        rintro e w1 ⟨rfl, hb1⟩
        have hb2 := bStep hb hb1
        have q1 := hbb'.keep hb1
        have q2 := hbc'.keep hb1
        have q3 := hbg'.keep hb1
        clear s0 s1 hbb' hbc' hbg' hbg2'
        go_wp2_with fail
        refine (pairSize_any gb gc ab ac n3 n4 cb cc _ w1 q1 q2 hnb hnc).mono ?_
        rintro e w2 ⟨rfl, hb3⟩
        have hb4 := bStep hb2 hb3
        obtain ⟨r0, r1, _, _⟩ := (q3.keep hb3).two
        clear q1 q2 q3 hb1 hb2 hb3 hb
        generalize hN1 : ((n1 + n2 : Nat) : Int) = N1 at *
        generalize hN2 : ((n3 + n4 : Nat) : Int) = N2 at *
        go_wp2_with fail
        go_roundw
        case rel => exact ⟨k + 1, by omega, by omega, HZ.out.symm, EN.out.symm, hb4⟩
        case measure => simp [ptrN]; omega
      · have HZ : Hid (nxt gs (bestTo L (k + 1 - 1)) = .pointer (some ⟨gb, 0, none⟩)) := by
          show _ = _
          rw [(HP.out _).2 (if_neg (by rw [HQ.out.1, HQ.out.2]; exact hq))]; exact EB.out
        have iq : ¬ ((n1 + n2 : Nat) : Int) < ((n3 + n4 : Nat) : Int) := by omega
        go_wp2_with fail
        refine (pairSize_any g g' a a' n1 n2 c c' _ wr hbg' hbg2' hn hn').mono ?_
        rintro e w1 ⟨rfl, hb1⟩
        have hb2 := bStep hb hb1
        have q1 := hbb'.keep hb1
        have q2 := hbc'.keep hb1
        have q3 := hbg'.keep hb1
        clear s0 s1 hbb' hbc' hbg' hbg2'
        go_wp2_with fail
        refine (pairSize_any gb gc ab ac n3 n4 cb cc _ w1 q1 q2 hnb hnc).mono ?_
        rintro e w2 ⟨rfl, hb3⟩
        have hb4 := bStep hb2 hb3
        obtain ⟨r0, r1, _, _⟩ := (q3.keep hb3).two
        clear q1 q2 q3 hb1 hb2 hb3 hb
        generalize hN1 : ((n1 + n2 : Nat) : Int) = N1 at *
        generalize hN2 : ((n3 + n4 : Nat) : Int) = N2 at *
        go_wp2_with fail
        go_roundw
        case rel => exact ⟨k + 1, by omega, by omega, HZ.out.symm, EN.out.symm, hb4⟩
        case measure => simp [ptrN]; omega
    · have HE : Hid (bestL L = bestTo L (k - 1)) := by show _ = _; unfold bestL; congr 1; omega
      rw [nxt_end (gs := gs) (k := k + 1) (by omega)] at hbg'
      obtain ⟨s0, s1, _, _⟩ := hbg'.two
      clear hbg hbb hbg'
      go_wp2_with fail
      go_ret
      exact ⟨by rw [HE.out, EB.out]; rfl, hb⟩
end Go.Proofs.YtjkojbafifbdgaaGreat

/-! SpineIn of the program: the contract. -/
namespace Go.Proofs.YtjkojbafifbdgaaGreat
open Go.RowKit Go.Shelf

theorem Spn.front {w : World} {lv fv : Value} {L : List (List Rw)} {F : List (Int × Int)} (h : Spn w lv fv L F) : Ts w fv F := h.2
theorem askedT_iff {F T : List (Int × Int)} : askedT F T = true ↔ ∀ t ∈ T, askedB F t.1 t.2 = true := by
  unfold askedT
  rw [List.all_eq_true]
  constructor
  · intro h t ht
    obtain ⟨i, hi, e⟩ := List.getElem_of_mem ht
    have := h i (List.mem_range.2 hi)
    simpa [tA, tB, List.getD_eq_getElem?_getD, List.getElem?_eq_getElem hi, e] using this
  · intro h i hi
    have hi' := List.mem_range.1 hi
    have := h T[i] (List.getElem_mem hi')
    simpa [tA, tB, List.getD_eq_getElem?_getD, List.getElem?_eq_getElem hi'] using this
theorem asked_times {F : List (Int × Int)} {b : List Rw} (h : rokB b = true) : askedT F (timesL b) = asked F b := by
  rw [Bool.eq_iff_iff, askedT_iff, times_yes h]
  unfold asked
  rw [List.all_eq_true]
  constructor
  · intro k r hr
    exact k r.1.2 ((times_mem h _).2 ⟨r, hr, rfl⟩)
  · intro k t ht
    obtain ⟨r, hr, rfl⟩ := (times_mem h t).1 ht
    exact k r hr
theorem add_lnk {W wa : World} {B : Nat} {p pa va : Value} {gs : List Nat} {vs : List Value} {L : List (List Rw)} {ga : Nat} {b : List Rw} (h : Lnk W B B p gs vs L) (lla : LLs wa B pa (gs ++ [ga]) (vs ++ [va])) (owna : OwnR wa W.heap.size va b) (hb : b.length ≤ 1000) (kg : Kg gs W wa) (hB : B ≤ W.heap.size) :
    Lnk wa B B pa (gs ++ [ga]) (vs ++ [va]) (L ++ [b]) := by
  refine ⟨lla, (h.ow.kg kg fun g hg => (h.ll.blk g hg).2).snoc (own_less owna hB) hb fun q e hq => ?_⟩
  have h1 := ownK_base owna q e
  obtain ⟨c, hc, _⟩ := h.ow.blk hq
  have := hc.lt
  omega
set_option maxRecDepth 100000 in
set_option maxHeartbeats 16000000 in
theorem implSpineIn_any (lv fv bv : Value) (L : List (List Rw)) (F : List (Int × Int)) (b : List Rw) (w : World) (h : Spn w lv fv L F) (hv : Rs w bv b) :
    Calls Tryz.prog 16 #[spv lv fv, bv] w fun e w' => ∃ lv' fv' : Value, e = .returned (.tuple #[spv lv' fv', .bool (inB1 L F b)]) ∧ SpO w' w.heap.size lv' fv' (inLL L F b) (inF L F b) ∧ Below w.heap.size w w' := by
  have HB := (show Hid (Rs w bv b) from hv)
  obtain ⟨aB, cB, rfl, -⟩ := Rs.open hv
  have HS := (show Hid (Spn w lv fv L F) from h)
  obtain ⟨aL, cL, aF, cF, rfl, rfl⟩ := Spn.open h
  have bs0 : Bk ((w.alloc (.cells #[.slice aL L.length cL, .slice aF F.length cF] 26)).alloc (.cells #[.slice none 0 0, .slice none 0 0] 26)) w.heap.size #[.slice aL L.length cL, .slice aF F.length cF] 26 := (Bk.new _ _ rfl).alloc _
  have br0 : Bk ((w.alloc (.cells #[.slice aL L.length cL, .slice aF F.length cF] 26)).alloc (.cells #[.slice none 0 0, .slice none 0 0] 26)) (w.heap.size + 1) #[.slice none 0 0, .slice none 0 0] 26 := Bk.new (w := w.alloc _) _ _ (by simp)
  have hb0 : Below w.heap.size w ((w.alloc (.cells #[.slice aL L.length cL, .slice aF F.length cF] 26)).alloc (.cells #[.slice none 0 0, .slice none 0 0] 26)) := bAlloc (bAlloc (Below.refl _ _) _) _
  have hs0 : w.heap.size + 2 ≤ ((w.alloc (.cells #[.slice aL L.length cL, .slice aF F.length cF] 26)).alloc (.cells #[.slice none 0 0, .slice none 0 0] 26)).heap.size := by simp
  obtain ⟨s0, s1, _, _⟩ := bs0.two
  clear h
  cases hk : spokB L F
  · have HN := (show Hid _ from in_no (b := b) (in_no1 hk))
    go_enter Tryz.func16, Tryz.ntmps16
    go_wp2_with fail
    generalize ((w.alloc (.cells #[.slice aL L.length cL, .slice aF F.length cF] 26)).alloc (.cells #[.slice none 0 0, .slice none 0 0] 26)) = w0 at *
    have e0 : ∀ p : Bel w0, p.ww.cell? ⟨w.heap.size, 0, none⟩ = some (.slice aL L.length cL) := fun p => (bs0.keep p.below).two.1
    have e1 : ∀ p : Bel w0, p.ww.cell? ⟨w.heap.size, 1, none⟩ = some (.slice aF F.length cF) := fun p => (bs0.keep p.below).two.2.1
    have SB : ∀ p : Bel w0, Spn p.ww (.slice aL L.length cL) (.slice aF F.length cF) L F := fun p => HS.out.keep (bStep hb0 p.below)
    have RB : ∀ p : Bel w0, Rs p.ww (.slice aB b.length cB) b := fun p => HB.out.keep (bStep hb0 p.below)
    have hne := bel_some w0
    (refine wp_region_bel (by kernel_rfl) (by kernel_rfl) ?_; (repeat (go_big_quiet_step ((first | (go_at_call 8; exact calls_bel (implSpineOk_eq hk (SB _))))))); refine wpQuiet_nil ?_)
    intro wq hwq
    replace hwq := bel_out hwq
    all_goals
      have br1 := br0.keep hwq
      have bs1 := bs0.keep hwq
      have hbw1 := bStep hb0 hwq
      have q8 := (br1.set 0 (.slice none 0 0)).set 1 (.slice none 0 0)
      have q9 := br1.set 0 (.slice none 0 0)
      obtain ⟨x0, x1, g0, g1⟩ := br1.two
      obtain ⟨y0, y1, h0, h1⟩ := q9.two
      obtain ⟨t0, t1, _, _⟩ := q8.two
      have HB8 : Hid (Below w.heap.size w ((wq.setCell ⟨w.heap.size + 1, 0, none⟩ (.slice none 0 0)).setCell ⟨w.heap.size + 1, 1, none⟩ (.slice none 0 0))) := (hbw1.setCell (show w.heap.size ≤ w.heap.size + 1 by omega) _).setCell (show w.heap.size ≤ w.heap.size + 1 by omega) _
      clear e0 e1 SB RB hne hwq q8 q9 br1 bs1 hbw1
      go_wp2_with fail
      refine bodyPost_ret (v := .tuple #[spv (.slice none 0 0) (.slice none 0 0), .bool false]) (by simp [results, Tryz.results16, go_sem, t0, t1]) rfl ?_
      exact ⟨_, _, by rw [HN.out.1], by rw [HN.out.2.1, HN.out.2.2]; exact SpO.nil _ _, HB8.out⟩
  cases hbk : bokB b
  · have HN := (show Hid _ from in_no (L := L) (F := F) (in_no2 hbk))
    go_enter Tryz.func16, Tryz.ntmps16
    go_wp2_with fail
    generalize ((w.alloc (.cells #[.slice aL L.length cL, .slice aF F.length cF] 26)).alloc (.cells #[.slice none 0 0, .slice none 0 0] 26)) = w0 at *
    have e0 : ∀ p : Bel w0, p.ww.cell? ⟨w.heap.size, 0, none⟩ = some (.slice aL L.length cL) := fun p => (bs0.keep p.below).two.1
    have e1 : ∀ p : Bel w0, p.ww.cell? ⟨w.heap.size, 1, none⟩ = some (.slice aF F.length cF) := fun p => (bs0.keep p.below).two.2.1
    have SB : ∀ p : Bel w0, Spn p.ww (.slice aL L.length cL) (.slice aF F.length cF) L F := fun p => HS.out.keep (bStep hb0 p.below)
    have RB : ∀ p : Bel w0, Rs p.ww (.slice aB b.length cB) b := fun p => HB.out.keep (bStep hb0 p.below)
    have hne := bel_some w0
    (refine wp_region_bel (by kernel_rfl) (by kernel_rfl) ?_; (repeat (go_big_quiet_step ((first | (go_at_call 8; exact calls_bel (implSpineOk_eq hk (SB _))) | (go_at_call 33; exact calls_bel (implBatchOk_eq hbk (RB _))))))); refine wpQuiet_nil ?_)
    intro wq hwq
    replace hwq := bel_out hwq
    all_goals
      have br1 := br0.keep hwq
      have bs1 := bs0.keep hwq
      have hbw1 := bStep hb0 hwq
      have q8 := (br1.set 0 (.slice none 0 0)).set 1 (.slice none 0 0)
      have q9 := br1.set 0 (.slice none 0 0)
      obtain ⟨x0, x1, g0, g1⟩ := br1.two
      obtain ⟨y0, y1, h0, h1⟩ := q9.two
      obtain ⟨t0, t1, _, _⟩ := q8.two
      have HB8 : Hid (Below w.heap.size w ((wq.setCell ⟨w.heap.size + 1, 0, none⟩ (.slice none 0 0)).setCell ⟨w.heap.size + 1, 1, none⟩ (.slice none 0 0))) := (hbw1.setCell (show w.heap.size ≤ w.heap.size + 1 by omega) _).setCell (show w.heap.size ≤ w.heap.size + 1 by omega) _
      clear e0 e1 SB RB hne hwq q8 q9 br1 bs1 hbw1
      go_wp2_with fail
      refine bodyPost_ret (v := .tuple #[spv (.slice none 0 0) (.slice none 0 0), .bool false]) (by simp [results, Tryz.results16, go_sem, t0, t1]) rfl ?_
      exact ⟨_, _, by rw [HN.out.1], by rw [HN.out.2.1, HN.out.2.2]; exact SpO.nil _ _, HB8.out⟩
  have hrk := bok_rok hbk
  have hbl : b.length ≤ 1000 := by have := rok_len hrk; omega
  cases hat : askedT F (timesL b)
  · have HN := (show Hid _ from in_no (L := L) (in_no3 (b := b) (by rw [← asked_times hrk]; exact hat)))
    go_enter Tryz.func16, Tryz.ntmps16
    go_wp2_with fail
    generalize ((w.alloc (.cells #[.slice aL L.length cL, .slice aF F.length cF] 26)).alloc (.cells #[.slice none 0 0, .slice none 0 0] 26)) = w0 at *
    have HX0 : Hid (∀ W, Below w0.heap.size w0 W → W.cell? ⟨w.heap.size, 0, none⟩ = some (.slice aL L.length cL) ∧ W.cell? ⟨w.heap.size, 1, none⟩ = some (.slice aF F.length cF)) := fun W hW => ⟨(bs0.keep hW).two.1, (bs0.keep hW).two.2.1⟩
    have HSW : Hid (∀ W, Below w0.heap.size w0 W → Spn W (.slice aL L.length cL) (.slice aF F.length cF) L F) := fun W hW => HS.out.keep (bStep hb0 hW)
    have HRW : Hid (∀ W, Below w0.heap.size w0 W → Rs W (.slice aB b.length cB) b) := fun W hW => HB.out.keep (bStep hb0 hW)
    have HFW : Hid (∀ W, Below w0.heap.size w0 W → Ts W (.slice aF F.length cF) F) := fun W hW => (HS.out.keep (bStep hb0 hW)).2
    have k0 : Below w0.heap.size w0 w0.drew := (Below.refl _ _).drew
    go_region_held3 (fun W => W.cell? ⟨w.heap.size, 0, none⟩ = some (.slice aL L.length cL) ∧ W.cell? ⟨w.heap.size, 1, none⟩ = some (.slice aF F.length cF))
      (first | exact HX0.out _ k0 | exact HX0.out _ k1 | exact HX0.out _ k2 | exact HX0.out _ k3 | exact HX0.out _ k4)
      (first
        | (go_at_call 8; with_reducible refine (implSpineOk_eq hk (HSW.out _ k0)).mono ?_; rintro e wa ⟨rfl, hba⟩; have k1 : Below w0.heap.size w0 wa := bStep k0 hba)
        | (go_at_call 33; with_reducible refine (implBatchOk_eq hbk (HRW.out _ k1)).mono ?_; rintro e wb ⟨rfl, hbb⟩; have k2 : Below w0.heap.size w0 wb := bStep k1 hbb)
        | (go_at_call 53; with_reducible refine (implTimesB_k rfl (HRW.out _ k2)).mono ?_; rintro e wt ⟨ot, rfl, Tt, hbt⟩; have k3 : Below w0.heap.size w0 wt := bStep k2 hbt)
        | (go_at_call 52; with_reducible refine (allMay_eq hat (HFW.out _ k3) Tt).mono ?_; rintro e wm ⟨rfl, hbm⟩; have k4 : Below w0.heap.size w0 wm := bStep k3 hbm))
    all_goals
      have br1 := br0.keep k4
      have bs1 := bs0.keep k4
      have hbw1 := bStep hb0 k4
      have q8 := (br1.set 0 (.slice none 0 0)).set 1 (.slice none 0 0)
      have q9 := br1.set 0 (.slice none 0 0)
      obtain ⟨x0, x1, g0, g1⟩ := br1.two
      obtain ⟨y0, y1, h0, h1⟩ := q9.two
      obtain ⟨t0, t1, _, _⟩ := q8.two
      have HB8 : Hid (Below w.heap.size w ((wm.setCell ⟨w.heap.size + 1, 0, none⟩ (.slice none 0 0)).setCell ⟨w.heap.size + 1, 1, none⟩ (.slice none 0 0))) := (hbw1.setCell (show w.heap.size ≤ w.heap.size + 1 by omega) _).setCell (show w.heap.size ≤ w.heap.size + 1 by omega) _
      clear q8 q9 br1 bs1 hbw1
      go_wp2_with fail
      refine bodyPost_ret (v := .tuple #[spv (.slice none 0 0) (.slice none 0 0), .bool false]) (by simp [results, Tryz.results16, go_sem, t0, t1]) rfl ?_
      exact ⟨_, _, by rw [HN.out.1], by rw [HN.out.2.1, HN.out.2.2]; exact SpO.nil _ _, HB8.out⟩
  have h6 := (spok_iff.1 hk).1
  have hfl := fok_len (spok_iff.1 hk).2.1
  have hfl8 : F.length ≤ 1000000 := by omega
  have HM := (show Hid _ from in_mid hk hbk (show asked F b = true by rw [← asked_times hrk]; exact hat))
  have HIL0 : Hid ((inL L F b).length ≤ 1000) := by show _ ≤ _; have := in_len F b h6; omega
  go_enter Tryz.func16, Tryz.ntmps16
  go_wp2_with fail
  generalize ((w.alloc (.cells #[.slice aL L.length cL, .slice aF F.length cF] 26)).alloc (.cells #[.slice none 0 0, .slice none 0 0] 26)) = w0 at *
  have HX0 : Hid (∀ W, Below w0.heap.size w0 W → W.cell? ⟨w.heap.size, 0, none⟩ = some (.slice aL L.length cL) ∧ W.cell? ⟨w.heap.size, 1, none⟩ = some (.slice aF F.length cF)) := fun W hW => ⟨(bs0.keep hW).two.1, (bs0.keep hW).two.2.1⟩
  have HSW : Hid (∀ W, Below w0.heap.size w0 W → Spn W (.slice aL L.length cL) (.slice aF F.length cF) L F) := fun W hW => HS.out.keep (bStep hb0 hW)
  have HRW : Hid (∀ W, Below w0.heap.size w0 W → Rs W (.slice aB b.length cB) b) := fun W hW => HB.out.keep (bStep hb0 hW)
  have HFW : Hid (∀ W, Below w0.heap.size w0 W → Ts W (.slice aF F.length cF) F) := fun W hW => (HS.out.keep (bStep hb0 hW)).2
  have k0 : Below w0.heap.size w0 w0.drew := (Below.refl _ _).drew
  go_region_held3 (fun W => W.cell? ⟨w.heap.size, 0, none⟩ = some (.slice aL L.length cL) ∧ W.cell? ⟨w.heap.size, 1, none⟩ = some (.slice aF F.length cF))
    (first | exact HX0.out _ k0 | exact HX0.out _ k1 | exact HX0.out _ k2 | exact HX0.out _ k3 | exact HX0.out _ k4)
    (first
      | (go_at_call 8; with_reducible refine (implSpineOk_eq hk (HSW.out _ k0)).mono ?_; rintro e wa ⟨rfl, hba⟩; have k1 : Below w0.heap.size w0 wa := bStep k0 hba)
      | (go_at_call 33; with_reducible refine (implBatchOk_eq hbk (HRW.out _ k1)).mono ?_; rintro e wb ⟨rfl, hbb⟩; have k2 : Below w0.heap.size w0 wb := bStep k1 hbb)
      | (go_at_call 53; with_reducible refine (implTimesB_k rfl (HRW.out _ k2)).mono ?_; rintro e wt ⟨ot, rfl, Tt, hbt⟩; have k3 : Below w0.heap.size w0 wt := bStep k2 hbt)
      | (go_at_call 52; with_reducible refine (allMay_eq hat (HFW.out _ k3) Tt).mono ?_; rintro e wm ⟨rfl, hbm⟩; have k4 : Below w0.heap.size w0 wm := bStep k3 hbm))
  all_goals
    have bs1 := bs0.keep k4
    have br1 := br0.keep k4
    have hbw1 := bStep hb0 k4
    have hs1 := Nat.le_trans hs0 k4.size
    obtain ⟨p0, p1, _, _⟩ := bs1.two
    clear s0 s1 k0 k1 k2 k3 k4 hba hbb hbt hbm Tt bs0 br0 hb0 hs0 HX0 HSW HRW HFW
    generalize wm = w1 at *
    go_wp2_with fail
    refine (linked_any _ L w1 (HS.out.keep hbw1).1 (spok_few hk)).mono ?_
    rintro e w2 ⟨p, gs, vs, rfl, lnk, hb2⟩
    obtain ⟨ap, rfl⟩ := lnk.ll.ptr
    have bs2 := bs1.keep hb2
    have br2 := br1.keep hb2
    have hs2 := hb2.size
    have hglen : gs.length = L.length := lnk.look.1
    have HG : Hid (∀ g ∈ gs, w1.heap.size ≤ g) := fun g hg => (lnk.ll.blk g hg).1
    have HX : Hid (∀ W, Kg gs w2 W → Bk W w.heap.size #[.slice aL L.length cL, .slice aF F.length cF] 26 ∧ Bk W (w.heap.size + 1) #[.slice none 0 0, .slice none 0 0] 26 ∧ Below w1.heap.size w1 W) := fun W hW => by
      refine ⟨?_, ?_, hW.below hb2 (by omega) HG.out⟩
      · unfold Bk; rw [hW.block _ bs2.lt (fun e => by have := HG.out _ e; omega)]; exact bs2
      · unfold Bk; rw [hW.block _ br2.lt (fun e => by have := HG.out _ e; omega)]; exact br2
    have k2 : Kg gs w2 w2 := Kg.refl _ _
    obtain ⟨q0, q1, _, _⟩ := bs2.two
    clear p0 p1 bs1 br1 hb2 bs2 br2
    by_cases hl6 : L.length = 6
    · have e6 : ((L.length : Int) == 6) = true := by simp [hl6]
      have hk2 : bestL L + 2 ≤ L.length := best_lt (by omega)
      have HROOM : Hid (inL L F b = joinO L F (bestL L) ++ [b]) := by show _ = _; unfold inL roomL; rw [if_pos (by omega)]
      have LD0 : Hid (Lnk w2.drew w1.heap.size w1.heap.size (.pointer ap) gs vs L) := lnk.keep (Below.refl _ _).drew
      have hcur : Kg gs w2 w2.drew := Kg.of_below (Below.refl _ _).drew
      have TD : Hid (Ts w2.drew (.slice aF F.length cF) F) := (HS.out.keep (bStep hbw1 (HX.out _ hcur).2.2)).2
      have hdz0 : w1.heap.size ≤ w2.drew.heap.size := (HX.out _ hcur).2.2.size
      have hL2 : 2 ≤ L.length := by omega
      clear hl6 lnk
      go_wp2_with fail
      go_region_held3 (fun W => W.cell? ⟨w.heap.size, 1, none⟩ = some (.slice aF F.length cF))
        (first | exact (HX.out _ hcur).1.two.2.1 | exact (HX.out _ hcL).1.two.2.1 | exact (HX.out _ hcT).1.two.2.1)
        (first
          | (go_at_call 54; with_reducible refine (leastPair_any _ gs vs L _ _ _ LD0.out hL2).mono ?_; rintro e wl ⟨rfl, hbl2⟩; have hcL : Kg gs w2 wl := hcur.trans (Kg.of_below hbl2); have LL := LD0.out.keep hbl2; have TL := TD.out.keep hbl2; have hzl : w1.heap.size ≤ wl.heap.size := Nat.le_trans hdz0 hbl2.size)
          | (go_at_call 38; with_reducible refine (takeNext_any (.pointer ap) _ gs vs L F _ _ (bestL L) _ LL TL hk hk2 hzl).mono ?_; rintro e w3 ⟨rfl, vs3, lnk3, kg3⟩; have hcT : Kg gs w2 w3 := hcL.trans kg3))
      all_goals
        have HSUB : Hid (∀ g ∈ gs.take (bestL L + 1) ++ gs.drop (bestL L + 2), g ∈ gs) := fun g hg => by
          rcases List.mem_append.1 hg with hg | hg
          · exact List.mem_of_mem_take hg
          · exact List.mem_of_mem_drop hg
        have HIL : Hid ((joinO L F (bestL L) ++ [b]).length ≤ 1000) := by rw [← HROOM.out]; exact HIL0.out
        clear q0 q1 LL TL kg3 LD0 TD hcL hcur
        have HNE : Hid (w.heap.size ≠ w.heap.size + 1) := by show _ ≠ _; omega
        have hdX : Kg gs w2 w3.drew := hcT.trans (Kg.of_below (Below.refl _ _).drew)
        have LD : Hid (Lnk w3.drew w1.heap.size w1.heap.size (.pointer ap) (gs.take (bestL L + 1) ++ gs.drop (bestL L + 2)) vs3 (joinO L F (bestL L))) := (lnk3).keep (Below.refl _ _).drew
        obtain ⟨bsX, brX, hbX⟩ := HX.out _ hdX
        have RD : Rs w3.drew (.slice aB b.length cB) b := HB.out.keep (bStep hbw1 hbX)
        have hdz : w1.heap.size ≤ w3.drew.heap.size := hbX.size
        obtain ⟨c0, c1, _, _⟩ := (HX.out _ hcT).1.two
        clear bsX brX hbX
        go_wp2_with fail
        go_region_held3 (fun W => W.cell? ⟨w.heap.size, 1, none⟩ = some (.slice aF F.length cF))
          (first | exact (HX.out _ hdX).1.two.2.1 | exact (HX.out _ kA).1.two.2.1 | exact (HX.out _ kB).1.two.2.1 | exact hsc)
          (first
            | (go_at_call 55; with_reducible refine (add_any _ b hbl (gs.take (bestL L + 1) ++ gs.drop (bestL L + 2)) vs3 w1.heap.size w1.heap.size _ _ LD.out.ll RD hdz hdz).mono ?_; rintro e wa ⟨pa, ga, va, rfl, lla, owna, hga, kga⟩; have kA : Kg gs w2 wa := hdX.trans (kga.mono HSUB.out); have lnkA : Lnk wa w1.heap.size w1.heap.size pa ((gs.take (bestL L + 1) ++ gs.drop (bestL L + 2)) ++ [ga]) (vs3 ++ [va]) (joinO L F (bestL L) ++ [b]) := add_lnk LD.out lla owna hbl kga hdz; obtain ⟨apa, rfl⟩ := lla.ptr; have TA := Spn.front (HS.out.keep (bStep hbw1 (HX.out _ kA).2.2)); have hza : w1.heap.size ≤ wa.heap.size := (HX.out _ kA).2.2.size)
            | (go_at_call 39; with_reducible refine (spineOf_any (.pointer apa) _ _ _ (joinO L F (bestL L) ++ [b]) F w1.heap.size w1.heap.size wa lnkA TA HIL.out hfl8 hza).mono ?_; rintro e wb ⟨lv', fv', rfl, spb, hbb⟩; have kB : Kg gs w2 wb := kA.trans (Kg.of_below hbb); obtain ⟨ax, cx, ay, cy, rfl, rfl⟩ := spb.open; obtain ⟨bsb, brb, hb1b⟩ := HX.out _ kB; have q9 := brb.set 0 (.slice ax (okL (joinO L F (bestL L) ++ [b]) F).length cx); obtain ⟨x0, x1, g0, g1⟩ := brb.two; obtain ⟨y0, y1, h0, h1⟩ := q9.two; have hsc := ((bsb.apart (p := ⟨w.heap.size + 1, 0, none⟩) HNE.out (.slice ax (okL (joinO L F (bestL L) ++ [b]) F).length cx)).apart (p := ⟨w.heap.size + 1, 1, none⟩) HNE.out (.slice ay (okF (joinO L F (bestL L) ++ [b]) F).length cy)).two.2.1))
        all_goals
          have q8 := q9.set 1 (.slice ay (okF (joinO L F (bestL L) ++ [b]) F).length cy)
          obtain ⟨t0, t1, _, _⟩ := q8.two
          have hbwb := bStep hbw1 hb1b
          have HF : Hid (SpO ((wb.setCell ⟨w.heap.size + 1, 0, none⟩ (.slice ax (okL (joinO L F (bestL L) ++ [b]) F).length cx)).setCell ⟨w.heap.size + 1, 1, none⟩ (.slice ay (okF (joinO L F (bestL L) ++ [b]) F).length cy)) w.heap.size (.slice ax (okL (joinO L F (bestL L) ++ [b]) F).length cx) (.slice ay (okF (joinO L F (bestL L) ++ [b]) F).length cy) (inLL L F b) (inF L F b) ∧ Below w.heap.size w ((wb.setCell ⟨w.heap.size + 1, 0, none⟩ (.slice ax (okL (joinO L F (bestL L) ++ [b]) F).length cx)).setCell ⟨w.heap.size + 1, 1, none⟩ (.slice ay (okF (joinO L F (bestL L) ++ [b]) F).length cy))) := by
            refine ⟨?_, (hbwb.setCell (show w.heap.size ≤ w.heap.size + 1 by omega) _).setCell (show w.heap.size ≤ w.heap.size + 1 by omega) _⟩
            rw [HM.out.2.1, HM.out.2.2, HROOM.out]
            exact (spb.set2 (by omega)).less (by omega)
          clear spb q8 q9 brb bsb hb1b hbwb hbb kA kB lnkA TA lla owna kga LD RD
          generalize (okL (joinO L F (bestL L) ++ [b]) F).length = nL at *
          generalize (okF (joinO L F (bestL L) ++ [b]) F).length = nF at *
          go_wp2_with fail
          refine bodyPost_ret (v := .tuple #[spv (.slice ax nL cx) (.slice ay nF cy), .bool (spokB (joinO L F (bestL L) ++ [b]) F)]) (by simp [results, Tryz.results16, go_sem, t0, t1]) rfl ?_
          exact ⟨_, _, by rw [HM.out.1, HROOM.out], HF.out.1, HF.out.2⟩
    · have e6 : ((L.length : Int) == 6) = false := by simp; omega
      have HROOM : Hid (inL L F b = L ++ [b]) := by show _ = _; unfold inL roomL; rw [if_neg (by omega)]
      have HSUB : Hid (∀ g ∈ gs, g ∈ gs) := fun g hg => hg
      have HIL : Hid ((L ++ [b]).length ≤ 1000) := by rw [← HROOM.out]; exact HIL0.out
      have HNE : Hid (w.heap.size ≠ w.heap.size + 1) := by show _ ≠ _; omega
      have hdX : Kg gs w2 w2.drew := k2.trans (Kg.of_below (Below.refl _ _).drew)
      have LD : Hid (Lnk w2.drew w1.heap.size w1.heap.size (.pointer ap) gs vs (L)) := (lnk).keep (Below.refl _ _).drew
      obtain ⟨bsX, brX, hbX⟩ := HX.out _ hdX
      have RD : Rs w2.drew (.slice aB b.length cB) b := HB.out.keep (bStep hbw1 hbX)
      have hdz : w1.heap.size ≤ w2.drew.heap.size := hbX.size
      obtain ⟨c0, c1, _, _⟩ := (HX.out _ k2).1.two
      clear bsX brX hbX
      go_wp2_with fail
      go_region_held3 (fun W => W.cell? ⟨w.heap.size, 1, none⟩ = some (.slice aF F.length cF))
        (first | exact (HX.out _ hdX).1.two.2.1 | exact (HX.out _ kA).1.two.2.1 | exact (HX.out _ kB).1.two.2.1 | exact hsc)
        (first
          | (go_at_call 55; with_reducible refine (add_any _ b hbl gs vs w1.heap.size w1.heap.size _ _ LD.out.ll RD hdz hdz).mono ?_; rintro e wa ⟨pa, ga, va, rfl, lla, owna, hga, kga⟩; have kA : Kg gs w2 wa := hdX.trans (kga.mono HSUB.out); have lnkA : Lnk wa w1.heap.size w1.heap.size pa (gs ++ [ga]) (vs ++ [va]) (L ++ [b]) := add_lnk LD.out lla owna hbl kga hdz; obtain ⟨apa, rfl⟩ := lla.ptr; have TA := Spn.front (HS.out.keep (bStep hbw1 (HX.out _ kA).2.2)); have hza : w1.heap.size ≤ wa.heap.size := (HX.out _ kA).2.2.size)
          | (go_at_call 39; with_reducible refine (spineOf_any (.pointer apa) _ _ _ (L ++ [b]) F w1.heap.size w1.heap.size wa lnkA TA HIL.out hfl8 hza).mono ?_; rintro e wb ⟨lv', fv', rfl, spb, hbb⟩; have kB : Kg gs w2 wb := kA.trans (Kg.of_below hbb); obtain ⟨ax, cx, ay, cy, rfl, rfl⟩ := spb.open; obtain ⟨bsb, brb, hb1b⟩ := HX.out _ kB; have q9 := brb.set 0 (.slice ax (okL (L ++ [b]) F).length cx); obtain ⟨x0, x1, g0, g1⟩ := brb.two; obtain ⟨y0, y1, h0, h1⟩ := q9.two; have hsc := ((bsb.apart (p := ⟨w.heap.size + 1, 0, none⟩) HNE.out (.slice ax (okL (L ++ [b]) F).length cx)).apart (p := ⟨w.heap.size + 1, 1, none⟩) HNE.out (.slice ay (okF (L ++ [b]) F).length cy)).two.2.1))
      all_goals
        have q8 := q9.set 1 (.slice ay (okF (L ++ [b]) F).length cy)
        obtain ⟨t0, t1, _, _⟩ := q8.two
        have hbwb := bStep hbw1 hb1b
        have HF : Hid (SpO ((wb.setCell ⟨w.heap.size + 1, 0, none⟩ (.slice ax (okL (L ++ [b]) F).length cx)).setCell ⟨w.heap.size + 1, 1, none⟩ (.slice ay (okF (L ++ [b]) F).length cy)) w.heap.size (.slice ax (okL (L ++ [b]) F).length cx) (.slice ay (okF (L ++ [b]) F).length cy) (inLL L F b) (inF L F b) ∧ Below w.heap.size w ((wb.setCell ⟨w.heap.size + 1, 0, none⟩ (.slice ax (okL (L ++ [b]) F).length cx)).setCell ⟨w.heap.size + 1, 1, none⟩ (.slice ay (okF (L ++ [b]) F).length cy))) := by
          refine ⟨?_, (hbwb.setCell (show w.heap.size ≤ w.heap.size + 1 by omega) _).setCell (show w.heap.size ≤ w.heap.size + 1 by omega) _⟩
          rw [HM.out.2.1, HM.out.2.2, HROOM.out]
          exact (spb.set2 (by omega)).less (by omega)
        clear spb q8 q9 brb bsb hb1b hbwb hbb kA kB lnkA TA lla owna kga LD RD
        generalize (okL (L ++ [b]) F).length = nL at *
        generalize (okF (L ++ [b]) F).length = nF at *
        go_wp2_with fail
        refine bodyPost_ret (v := .tuple #[spv (.slice ax nL cx) (.slice ay nF cy), .bool (spokB (L ++ [b]) F)]) (by simp [results, Tryz.results16, go_sem, t0, t1]) rfl ?_
        exact ⟨_, _, by rw [HM.out.1, HROOM.out], HF.out.1, HF.out.2⟩
end Go.Proofs.YtjkojbafifbdgaaGreat
