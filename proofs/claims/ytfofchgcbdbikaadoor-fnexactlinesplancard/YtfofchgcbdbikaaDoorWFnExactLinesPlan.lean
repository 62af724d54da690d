/- The exact law of LinesPlan: its walk. -/
import Derived.Test.YtfofchgcbdbikaaDoorLx3
namespace Go.Proofs.YtfofchgcbdbikaaDoor
open Go.RowKit Go.Shelf

theorem cnt_le : ∀ (d : Nat) (t : PT), pokB t d = true → cntT t + 2 ≤ 2 ^ d
  | 0, t, h => by rw [pok_zero] at h; cases h
  | d + 1, .n0 k n, _ => by
    have : 1 ≤ 2 ^ d := Nat.one_le_two_pow
    simp only [cntT, Nat.pow_succ]; omega
  | d + 1, .n1 k n a, h => by
    simp only [pokB, Bool.and_eq_true] at h
    have := cnt_le d a h.2
    simp only [cntT, Nat.pow_succ]; omega
  | d + 1, .n2 k n a b, h => by
    simp only [pokB, Bool.and_eq_true] at h
    have h1 := cnt_le d a h.1.2
    have h2 := cnt_le d b h.2
    simp only [cntT, Nat.pow_succ]; omega
/-- What is answered, a plan that is none among it. -/
def resT (s : By) : PT × Bool := match linesI s with
  | some t => (t, true)
  | none => (.n0 0 0, false)
theorem resT_cnt (s : By) : cntT (resT s).1 ≤ 14 := by
  unfold resT
  split
  · rename_i t h
    have := cnt_le 4 t (linesI_some h).1
    show cntT t ≤ 14
    omega
  · decide
theorem implLines_one (s : By) (m : Int) (w : World) (hm : w.cell? ⟨1, 0, none⟩ = some (.int .i64 m)) :
    Calls Tryd.prog 10 #[.string (baS s)] w fun e w' => (∃ a n c, e = .returned (.tuple #[pl (resT s).1.k (resT s).1.n (.slice a n c), .bool (resT s).2]) ∧ KdQ (fun g => w.heap.size ≤ g) w' (resT s).1 (.slice a n c)) ∧ Below w.heap.size w w' := by
  refine (implLinesPlanQ_any s m w hm).mono ?_
  rintro e w' ⟨⟨t, a, n, c, hl, rfl, hk⟩ | ⟨hl, rfl⟩, hb⟩
  · have e1 : resT s = (t, true) := by unfold resT; rw [hl]
    rw [e1]
    exact ⟨⟨a, n, c, rfl, hk⟩, hb⟩
  · have e1 : resT s = (.n0 0 0, false) := by unfold resT; rw [hl]
    rw [e1]
    exact ⟨⟨none, 0, 0, rfl, ⟨_, _, rfl⟩⟩, hb⟩
theorem specLines_one (s : By) (w : World) :
    Calls Tryd.prog 13 #[.string (baS s)] w fun e w' => (∃ a n c, e = .returned (.tuple #[pl (resT s).1.k (resT s).1.n (.slice a n c), .bool (resT s).2]) ∧ KdS w.heap.size w' (resT s).1 (.slice a n c)) ∧ Below w.heap.size w w' := by
  refine (specLinesPlan_any s w).mono ?_
  rintro e w' ⟨⟨t, a, n, c, hl, rfl, hk⟩ | ⟨hl, rfl⟩, hb⟩
  · rw [lines_eq] at hl
    have e1 : resT s = (t, true) := by unfold resT; rw [hl]
    rw [e1]
    exact ⟨⟨a, n, c, rfl, hk.kd⟩, hb⟩
  · rw [lines_eq] at hl
    have e1 : resT s = (.n0 0 0, false) := by unfold resT; rw [hl]
    rw [e1]
    exact ⟨⟨none, 0, 0, rfl, ⟨_, _, rfl⟩⟩, hb⟩
set_option maxRecDepth 100000 in
set_option maxHeartbeats 16000000 in
theorem FnExactLinesPlan.walk (ea : Addr) (m : Int) (b0 : ByteArray) (w : World) (_hg : w.cell? ⟨0, 0, none⟩ = some (erV ea)) (hm : w.cell? ⟨1, 0, none⟩ = some (.int .i64 m)) :
    Calls Tryd.prog 5 #[.string b0] w fun e w' => e = .returned (.bool true) ∧ Below w.heap.size w w' := by
  clear _hg
  obtain ⟨s, rfl⟩ : ∃ s : By, b0 = baS s := ⟨b0.data.toList, by simp [baS]⟩
  have hsz := baS_size s
  by_cases hl : (1048576 : Int) < (s.length : Int)
  · clear hm
    go_enter Tryd.func5, Tryd.ntmps5
    go_wp2_with fail
    go_ret
    exact ⟨rfl, Below.refl _ _⟩
  · have HLI : Hid (∀ W : World, Below w.heap.size w W → Calls Tryd.prog 10 #[.string (baS s)] W fun e w' => (∃ a n c, e = .returned (.tuple #[pl (resT s).1.k (resT s).1.n (.slice a n c), .bool (resT s).2]) ∧ KdQ (fun g => W.heap.size ≤ g) w' (resT s).1 (.slice a n c)) ∧ Below W.heap.size W w') := fun W hW => implLines_one s m W (cell_below hW hm)
    have HLS := (show Hid _ from specLines_one s w)
    have hcn := resT_cnt s
    clear hm
    obtain ⟨t, ht⟩ : ∃ t, (resT s).1 = t := ⟨_, rfl⟩
    obtain ⟨bb, hbb⟩ : ∃ bb, (resT s).2 = bb := ⟨_, rfl⟩
    rw [ht, hbb] at HLI HLS
    rw [ht] at hcn
    clear ht hbb
    go_enter Tryd.func5, Tryd.ntmps5
    go_wp2_with fail
    refine Calls.mono HLS.out ?_
    rintro e w2 ⟨⟨a2, n2, c2, rfl, hk2⟩, hb2⟩
    have hbA : Below w2.heap.size w2 (w2.alloc (.cells #[.int .i64 t.k, .int .i64 t.n, .slice a2 n2 c2] 25)) := bAlloc (Below.refl _ _) _
    have b2 : Bk (w2.alloc (.cells #[.int .i64 t.k, .int .i64 t.n, .slice a2 n2 c2] 25)) w2.heap.size #[.int .i64 t.k, .int .i64 t.n, .slice a2 n2 c2] 25 := Bk.new _ _ rfl
    have hb3 := bStep hb2 hbA
    have hk3 := hk2.keep hbA
    clear hk2 hb2 hbA HLS
    go_upto_region 4 with fail
    generalize (w2.alloc (.cells #[.int .i64 t.k, .int .i64 t.n, .slice a2 n2 c2] 25)) = W2 at *
    generalize w2.heap.size = q2 at *
    have H2 : Hid (∀ V : World, Below W2.heap.size W2 V → Bk V q2 #[.int .i64 t.k, .int .i64 t.n, .slice a2 n2 c2] 25 ∧ KdS w.heap.size V t (.slice a2 n2 c2) ∧ Below w.heap.size w V) := fun V hV => ⟨b2.keep hV, hk3.keep hV, bStep hb3 hV⟩
    clear b2 hk3
    go_wp2_with fail
    refine Calls.mono (HLI.out _ hb3) ?_
    rintro e w3 ⟨⟨a5, n5, c5, rfl, hk5⟩, hb4⟩
    have hA : Below W2.heap.size W2 (w3.alloc (.cells #[.int .i64 t.k, .int .i64 t.n, .slice a5 n5 c5] 25)) := bAlloc hb4 _
    have b5 : Bk (w3.alloc (.cells #[.int .i64 t.k, .int .i64 t.n, .slice a5 n5 c5] 25)) w3.heap.size #[.int .i64 t.k, .int .i64 t.n, .slice a5 n5 c5] 25 := Bk.new _ _ rfl
    have hk6 : KdQ (fun g => W2.heap.size ≤ g ∧ g < w3.heap.size) (w3.alloc (.cells #[.int .i64 t.k, .int .i64 t.n, .slice a5 n5 c5] 25)) t (.slice a5 n5 c5) := hk5.move fun g hg hl => ⟨⟨hg, hl⟩, (bAlloc (Below.refl w3.heap.size w3) _).block g hl⟩
    have hs3 := hb4.size
    clear hk5 hb4 hb3
    go_upto_region 5 with fail
    generalize (w3.alloc (.cells #[.int .i64 t.k, .int .i64 t.n, .slice a5 n5 c5] 25)) = W3 at *
    generalize w3.heap.size = q3 at *
    obtain ⟨h2b, h2k, h2w⟩ := H2.out _ hA
    obtain ⟨x0, x1, x2⟩ := b5.three'
    obtain ⟨y0, y1, y2⟩ := h2b.three'
    have HEQ := (show Hid _ from eqPlan_any t (hk6.kd (B := W2.heap.size) fun g hg => hg.1) h2k)
    clear h2k h2b h2w
    go_wp2_with fail
    refine Calls.mono HEQ.out ?_
    rintro e w6 ⟨rfl, hb7⟩
    have b6 := b5.keep hb7
    have hk7 : KdQ (fun g => W2.heap.size ≤ g ∧ g < q3) w6 t (.slice a5 n5 c5) := hk6.move fun g hg hl => ⟨hg, hb7.block g hl⟩
    have hA6 := bStep hA hb7
    have hbn : (bb != bb) = false := by simp
    clear x0 x1 x2 y0 y1 y2 b5 hk6 hA hb7 HEQ
    obtain ⟨x0, x1, x2⟩ := b6.three'
    have HMK := (show Hid _ from markPlan_any (k := 1) hk7 (by omega))
    go_wp2_with fail
    refine Calls.mono HMK.out ?_
    rintro e w7 ⟨rfl, hk8, hpx⟩
    have hA7 : Below W2.heap.size W2 w7 := hpx.below hA6 hA6.size fun g hg => hg.1
    have b7 := bk_move b6 (hpx.block q3 b6.lt (fun h => by have := h.2; omega))
    obtain ⟨M, hM, hM0⟩ : ∃ M : Nat, 1 + 2 * cntT t = M ∧ M ≤ 1000 := ⟨_, rfl, by omega⟩
    have hkM : 1 + 2 * cntT t ≤ 1000 := by omega
    have HHD : Hid (Calls Tryd.prog 17 #[pl t.k t.n (.slice a5 n5 c5), .int .i64 1] w7 fun e w' => e = .returned (.int .i64 (M : Int)) ∧ Below w7.heap.size w7 w') := by
      rw [← hM]
      exact heldPlan_any (t := t) (k := 1) (K := t.k) (N := t.n) (hk8.kd (B := W2.heap.size) fun g hg => hg.1) hkM
    rw [hM]
    have hMn : ¬ ((M : Int) < 0) := by omega
    clear x0 x1 x2 b6 hk7 hA6 hpx HMK
    obtain ⟨x0, x1, x2⟩ := b7.three'
    go_wp2_with fail
    refine Calls.mono HHD.out ?_
    rintro e w8 ⟨rfl, hb9⟩
    have hA8 := bStep hA7 hb9
    have b8 := b7.keep hb9
    have hk9 : KdQ (fun g => W2.heap.size ≤ g ∧ g < q3) w8 (numT t t.k t.n 1) (.slice a5 n5 c5) := hk8.move fun g hg hl => ⟨hg, hb9.block g hl⟩
    clear x0 x1 x2 b7 hk8 hA7 hb9 HHD
    obtain ⟨h2b, h2k, h2w⟩ := H2.out _ hA8
    go_wp2_with fail
    refine Calls.mono (HLI.out _ h2w) ?_
    rintro e w9 ⟨⟨a9, n9, c9, rfl, hk10⟩, hb10⟩
    have hA10 : Below W2.heap.size W2 (w9.alloc (.cells #[.int .i64 t.k, .int .i64 t.n, .slice a9 n9 c9] 25)) := bAlloc (bStep hA8 hb10) _
    have b9 : Bk (w9.alloc (.cells #[.int .i64 t.k, .int .i64 t.n, .slice a9 n9 c9] 25)) w9.heap.size #[.int .i64 t.k, .int .i64 t.n, .slice a9 n9 c9] 25 := Bk.new _ _ rfl
    have hb11 : Below w8.heap.size w8 (w9.alloc (.cells #[.int .i64 t.k, .int .i64 t.n, .slice a9 n9 c9] 25)) := bAlloc hb10 _
    have b10 := b8.keep hb11
    have hk11 : KdS w8.heap.size (w9.alloc (.cells #[.int .i64 t.k, .int .i64 t.n, .slice a9 n9 c9] 25)) t (.slice a9 n9 c9) := (hk10.kd fun g hg => hg).keep (bAlloc (Below.refl w9.heap.size w9) _)
    have hk12 : KdQ (fun g => W2.heap.size ≤ g ∧ g < q3) (w9.alloc (.cells #[.int .i64 t.k, .int .i64 t.n, .slice a9 n9 c9] 25)) (numT t t.k t.n 1) (.slice a5 n5 c5) := hk9.move fun g hg hl => ⟨hg, hb11.block g hl⟩
    clear h2b h2k h2w b8 hk9 hA8 hk10 hb10 hb11
    go_upto_region 16 with fail
    generalize (w9.alloc (.cells #[.int .i64 t.k, .int .i64 t.n, .slice a9 n9 c9] 25)) = W9 at *
    generalize w9.heap.size = q9 at *
    obtain ⟨h2b, h2k, h2w⟩ := H2.out _ hA10
    obtain ⟨x0, x1, x2⟩ := b9.three'
    obtain ⟨y0, y1, y2⟩ := h2b.three'
    have HEQ := (show Hid _ from eqPlan_any t hk11 h2k)
    clear h2k h2b h2w hk11
    go_wp2_with fail
    refine Calls.mono HEQ.out ?_
    rintro e w10 ⟨rfl, hb12⟩
    have b11 := b10.keep hb12
    have hA11 := bStep hA10 hb12
    have hk13 : KdQ (fun g => W2.heap.size ≤ g ∧ g < q3) w10 (numT t t.k t.n 1) (.slice a5 n5 c5) := hk12.move fun g hg hl => ⟨hg, hb12.block g hl⟩
    have HHD : Hid (Calls Tryd.prog 17 #[pl t.k t.n (.slice a5 n5 c5), .int .i64 1] w10 fun e w' => e = .returned (.int .i64 (M : Int)) ∧ Below w10.heap.size w10 w') := by
      rw [← hM]
      exact heldPlan_any (t := t) (k := 1) (K := t.k) (N := t.n) (hk13.kd (B := W2.heap.size) fun g hg => hg.1) hkM
    clear x0 x1 x2 y0 y1 y2 b9 b10 hk12 hA10 hb12 HEQ
    obtain ⟨x0, x1, x2⟩ := b11.three'
    go_wp2_with fail
    refine Calls.mono HHD.out ?_
    rintro e w11 ⟨rfl, hb13⟩
    obtain ⟨-, -, h2w⟩ := H2.out _ (bStep hA11 hb13)
    go_wp2_with fail
    go_ret
    exact ⟨rfl, h2w⟩
end Go.Proofs.YtfofchgcbdbikaaDoor
