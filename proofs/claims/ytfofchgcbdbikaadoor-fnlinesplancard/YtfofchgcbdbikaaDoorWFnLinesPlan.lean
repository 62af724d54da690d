/- The law of LinesPlan: its walk. -/
import Derived.Test.YtfofchgcbdbikaaDoorLq6
namespace Go.Proofs.YtfofchgcbdbikaaDoor
open Go.RowKit Go.Shelf

theorem cand_99 : ∀ p ∈ cand, 0 ≤ p.2 ∧ p.2 ≤ 99 := by decide
theorem pok_sm : ∀ (d : Nat) (t : PT), pokB t d = true → t.sm
  | 0, t, h => by rw [pok_zero] at h; cases h
  | d + 1, .n0 k n, h => cand_99 _ (here_cand (show hereB (.n0 k n) = true from h)).1
  | d + 1, .n1 k n a, h => by
    simp only [pokB, Bool.and_eq_true] at h
    exact ⟨cand_99 _ (here_cand h.1).1, pok_sm d a h.2⟩
  | d + 1, .n2 k n a b, h => by
    simp only [pokB, Bool.and_eq_true] at h
    exact ⟨cand_99 _ (here_cand h.1.1).1, pok_sm d a h.1.2, pok_sm d b h.2⟩
set_option maxRecDepth 100000 in
set_option maxHeartbeats 8000000 in
theorem FnLinesPlan.walk (ea : Addr) (m : Int) (a : Option Addr) (len cap : Nat) (w : World) (h : Src w (.slice a len cap) len) (hg : w.cell? ⟨0, 0, none⟩ = some (erV ea)) (hm : w.cell? ⟨1, 0, none⟩ = some (.int .i64 m)) :
    Calls Tryd.prog 4 #[.slice a len cap] w fun e w' => e = .returned (.bool true) ∧ Below w.heap.size w w' := by
  have HS := (show Hid _ from h)
  have hlen : (len : Int) ≤ 9223372036854775807 := by
    obtain ⟨a', cap', e, h1, h2, _⟩ := h
    unfold maxLen at h2
    simp at e
    omega
  clear h
  by_cases hl : (1048576 : Int) < (len : Int)
  · clear hg hm
    go_enter Tryd.func4, Tryd.ntmps4
    go_wp2_with fail
    go_ret
    exact ⟨rfl, Below.refl _ _⟩
  · have HG := (show Hid _ from hg)
    have HM := (show Hid _ from hm)
    clear hg hm
    go_enter Tryd.func4, Tryd.ntmps4
    go_wp2_with fail
    refine (drawLinesPlan_any a len cap w HS.out).mono ?_
    rintro e w1 ⟨⟨s, rfl, -⟩, hb1⟩
    clear HS
    go_wp2_with fail
    refine (specLinesPlan_any s w1).mono ?_
    rintro e w2 ⟨hor, hb2⟩
    have hbw2 := bStep hb1 hb2
    rw [lines_eq s] at hor
    have HLI : Hid (∀ W : World, Below w.heap.size w W → Calls Tryd.prog 10 #[.string (baS s)] W (LinesPost s W)) := fun W hW => implLinesPlan_any s m W (cell_below hW HM.out)
    clear hb1 hb2
    rcases hor with ⟨t, a2, n2, c2, hl2, rfl, hk2⟩ | ⟨hl2, rfl⟩
    · obtain ⟨hpok, htx⟩ := linesI_some hl2
      have HL2 := (show Hid (linesI s = some t) from hl2)
      have HPK := (show Hid (pokB t 4 = true) from hpok)
      have HTX : Hid (planText t = s) := by show planText t = s; unfold planText; rw [hpok]; exact htx
      have hbA : Below w2.heap.size w2 (w2.alloc (.cells #[.int .i64 t.k, .int .i64 t.n, .slice a2 n2 c2] 25)) := bAlloc (Below.refl _ _) _
      have b2 : Bk (w2.alloc (.cells #[.int .i64 t.k, .int .i64 t.n, .slice a2 n2 c2] 25)) w2.heap.size #[.int .i64 t.k, .int .i64 t.n, .slice a2 n2 c2] 25 := Bk.new _ _ rfl
      have hb3 := bStep hbw2 hbA
      have hk3 := KdS.keep hbA hk2.kd
      clear hl2 hpok htx hk2 hbw2 hbA
      go_upto_region 5 with fail
      generalize (w2.alloc (.cells #[.int .i64 t.k, .int .i64 t.n, .slice a2 n2 c2] 25)) = W2 at *
      generalize w2.heap.size = q2 at *
      go_wp2_with fail
      refine Calls.mono (HLI.out _ hb3) ?_
      rintro e w3 ⟨hor, hb4⟩
      have b23 := b2.keep hb4
      have hk4 := KdS.keep hb4 hk3
      have hb5 := bStep hb3 hb4
      clear b2 hk3 hb3
      rcases hor with ⟨t', a5, n5, c5, hl5, rfl, hk5⟩ | ⟨hl5, -⟩
      · obtain rfl : t = t' := by have := HL2.out; rw [hl5] at this; exact (Option.some.inj this).symm
        have hbA : Below w3.heap.size w3 (w3.alloc (.cells #[.int .i64 t.k, .int .i64 t.n, .slice a5 n5 c5] 25)) := bAlloc (Below.refl _ _) _
        have b5 : Bk (w3.alloc (.cells #[.int .i64 t.k, .int .i64 t.n, .slice a5 n5 c5] 25)) w3.heap.size #[.int .i64 t.k, .int .i64 t.n, .slice a5 n5 c5] 25 := Bk.new _ _ rfl
        have b25 := b23.keep hbA
        have hb6 := bStep hb5 hbA
        have HK5 := (show Hid _ from KdS.keep hbA hk5.kd)
        have HK6 := (show Hid _ from KdS.keep hbA hk4)
        clear hl5 hk5 hk4 b23 hb5 hbA hb4
        go_upto_region 6 with fail
        generalize (w3.alloc (.cells #[.int .i64 t.k, .int .i64 t.n, .slice a5 n5 c5] 25)) = W3 at *
        generalize w3.heap.size = q3 at *
        obtain ⟨x0, x1, x2⟩ := b5.three'
        obtain ⟨y0, y1, y2⟩ := b25.three'
        go_wp2_with fail
        refine Calls.mono (lwPlan_any t HK5.out HK6.out) ?_
        rintro e w6 ⟨rfl, hb7⟩
        have b56 := b5.keep hb7
        have HK7 := (show Hid _ from KdS.keep hb7 HK5.out)
        have hb8 := bStep hb6 hb7
        have hg8 := cell_below hb8 HG.out
        clear x0 x1 x2 y0 y1 y2 b5 b25 HK5 HK6 hb6 hb7
        obtain ⟨x0, x1, x2⟩ := b56.three'
        go_wp2_with fail
        refine Calls.mono (implPlanOk_any ea (pok_sm 4 t HPK.out) HK7.out hg8) ?_
        rintro e w7 ⟨rfl, hb9⟩
        have b57 := b56.keep hb9
        have HK8 := (show Hid _ from KdS.keep hb9 HK7.out)
        have hb10 := bStep hb8 hb9
        have hg10 := cell_below hb10 HG.out
        clear x0 x1 x2 b56 HK7 hb8 hb9 hg8
        obtain ⟨x0, x1, x2⟩ := b57.three'
        rw [HPK.out]
        go_wp2_with fail
        refine Calls.mono (implPlanText_any ea (pok_sm 4 t HPK.out) HK8.out hg10) ?_
        rintro e w8 ⟨rfl, hb11⟩
        have hbf := bStep hb10 hb11
        rw [HTX.out]
        go_wp2_with fail
        go_ret
        exact ⟨by simp, hbf⟩
      · rw [HL2.out] at hl5; cases hl5
    · have HL2 := (show Hid (linesI s = none) from hl2)
      have hbA : Below w2.heap.size w2 (w2.alloc (.cells #[.int .i64 0, .int .i64 0, .slice none 0 0] 25)) := bAlloc (Below.refl _ _) _
      have b2 : Bk (w2.alloc (.cells #[.int .i64 0, .int .i64 0, .slice none 0 0] 25)) w2.heap.size #[.int .i64 0, .int .i64 0, .slice none 0 0] 25 := Bk.new _ _ rfl
      have hb3 := bStep hbw2 hbA
      clear hl2 hbw2 hbA
      go_upto_region 5 with fail
      generalize (w2.alloc (.cells #[.int .i64 0, .int .i64 0, .slice none 0 0] 25)) = W2 at *
      generalize w2.heap.size = q2 at *
      go_wp2_with fail
      refine Calls.mono (HLI.out _ hb3) ?_
      rintro e w3 ⟨hor, hb4⟩
      have b23 := b2.keep hb4
      have hb5 := bStep hb3 hb4
      clear b2 hb3
      rcases hor with ⟨t', a5, n5, c5, hl5, -, -⟩ | ⟨-, rfl⟩
      · rw [HL2.out] at hl5; cases hl5
      · have hbA : Below w3.heap.size w3 (w3.alloc (.cells #[.int .i64 0, .int .i64 0, .slice none 0 0] 25)) := bAlloc (Below.refl _ _) _
        have b5 : Bk (w3.alloc (.cells #[.int .i64 0, .int .i64 0, .slice none 0 0] 25)) w3.heap.size #[.int .i64 0, .int .i64 0, .slice none 0 0] 25 := Bk.new _ _ rfl
        have b25 := b23.keep hbA
        have hb6 := bStep hb5 hbA
        clear b23 hb5 hbA hb4
        go_upto_region 6 with fail
        generalize (w3.alloc (.cells #[.int .i64 0, .int .i64 0, .slice none 0 0] 25)) = W3 at *
        generalize w3.heap.size = q3 at *
        have HLW := (show Hid _ from fun (W : World) => lwPlan_any (.n0 0 0) (B := 0) (B' := 0) (w := W) (s := .slice none 0 0) (s' := .slice none 0 0) ⟨none, 0, rfl⟩ ⟨none, 0, rfl⟩)
        obtain ⟨x0, x1, x2⟩ := b5.three'
        obtain ⟨y0, y1, y2⟩ := b25.three'
        go_wp2_with fail
        refine Calls.mono (HLW.out _) ?_
        rintro e w6 ⟨rfl, hb7⟩
        have b56 := b5.keep hb7
        have hb8 := bStep hb6 hb7
        clear x0 x1 x2 y0 y1 y2 b5 b25 hb6 hb7
        obtain ⟨x0, x1, x2⟩ := b56.three'
        go_wp2_with fail
        refine Calls.mono (HLW.out _) ?_
        rintro e w7 ⟨rfl, hb9⟩
        have hbf := bStep hb8 hb9
        go_wp2_with fail
        go_ret
        exact ⟨rfl, hbf⟩
end Go.Proofs.YtfofchgcbdbikaaDoor
