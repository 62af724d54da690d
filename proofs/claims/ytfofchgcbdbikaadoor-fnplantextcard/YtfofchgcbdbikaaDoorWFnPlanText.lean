/- The law of PlanText: its walk. -/
import Derived.Test.YtfofchgcbdbikaaDoorLq5
import Derived.Test.YtfofchgcbdbikaaDoorGpb
namespace Go.Proofs.YtfofchgcbdbikaaDoor
open Go.RowKit Go.Shelf

set_option maxRecDepth 100000 in
set_option maxHeartbeats 4000000 in
theorem drawPlanText_any (a : Option Addr) (len cap : Nat) (w : World) (h : Src w (.slice a len cap) len) :
    Calls Tryd.prog 7 #[.slice a len cap] w fun e w' => ∃ (t : PT) (a : Option Addr) (i c : Nat), e = .returned (pl t.k t.n (.slice a i c)) ∧ t.sm ∧ KdS w.heap.size w' t (.slice a i c) ∧ Below w.heap.size w w' := by
  have hb0 : Below w.heap.size w (w.alloc (.cells #[.int .i64 0, .int .i64 0, .slice none 0 0] 25)) := bAlloc (Below.refl _ _) _
  have br : Bk (w.alloc (.cells #[.int .i64 0, .int .i64 0, .slice none 0 0] 25)) w.heap.size #[.int .i64 0, .int .i64 0, .slice none 0 0] 25 := Bk.new _ _ rfl
  have HS := (show Hid _ from h.keep hb0)
  have hz0 : (w.alloc (.cells #[.int .i64 0, .int .i64 0, .slice none 0 0] 25)).heap.size = w.heap.size + 1 := by simp
  clear h
  go_enter Tryd.func7, Tryd.ntmps7
  go_wp2_with fail
  refine (l6Open_any a len cap _ HS.out).mono ?_
  rintro e w1 ⟨he, ⟨v, n, hr1⟩, hb1⟩
  have br1 := br.keep hb1
  have hbw1 := bStep hb0 hb1
  have hz1 := hb1.size
  rw [hz0] at he hr1 hz1
  subst he
  clear br hb0 HS hb1 hz0
  go_wp2_with fail
  refine (l71Bent_any hr1 (by omega) (by omega)).mono ?_
  rintro e w2 ⟨t, a2, i2, c2, rfl, hsm, _, kd, _, hx2⟩
  have br2 := br1.keepx hx2 (by omega)
  have hb2 := hx2.below hbw1 (by omega) (by omega)
  obtain ⟨f0, f1, f2⟩ := br2.free3
  obtain ⟨z0, z1, z2⟩ := br2.three'
  obtain ⟨y0, y1, y2⟩ := (br2.set012 (.int .i64 t.k) (.int .i64 t.n) (.slice a2 i2 c2)).three'
  have b3 : Bx w.heap.size w2 (set3 w2 w.heap.size (.int .i64 t.k) (.int .i64 t.n) (.slice a2 i2 c2)) := (((Bx.refl w.heap.size w2).setG (p := ⟨w.heap.size, 0, none⟩) rfl _).setG (p := ⟨w.heap.size, 1, none⟩) rfl _).setG (p := ⟨w.heap.size, 2, none⟩) rfl _
  have HK := (show Hid _ from (kd.keepx b3 (by omega)).less (B' := w.heap.size) (by omega))
  have HB := (show Hid _ from ((hb2.setCell (p := ⟨w.heap.size, 0, none⟩) (Nat.le_refl _) (.int .i64 t.k)).setCell (p := ⟨w.heap.size, 1, none⟩) (Nat.le_refl _) (.int .i64 t.n)).setCell (p := ⟨w.heap.size, 2, none⟩) (Nat.le_refl _) (.slice a2 i2 c2))
  clear kd b3
  go_wp2_with fail
  refine bodyPost_ret (v := pl t.k t.n (.slice a2 i2 c2)) (by simp [results, Tryd.results7, go_sem, y0, y1, y2]; try first | rfl | exact ⟨rfl, rfl⟩) rfl ?_
  exact ⟨t, a2, i2, c2, rfl, hsm, HK.out, HB.out⟩
set_option maxRecDepth 100000 in
set_option maxHeartbeats 8000000 in
theorem FnPlanText.walk (ea : Addr) (m : Int) (a : Option Addr) (len cap : Nat) (w : World) (h : Src w (.slice a len cap) len) (hg : w.cell? ⟨0, 0, none⟩ = some (erV ea)) (hm : w.cell? ⟨1, 0, none⟩ = some (.int .i64 m)) :
    Calls Tryd.prog 3 #[.slice a len cap] w fun e w' => e = .returned (.bool true) ∧ Below w.heap.size w w' := by
  have HS := (show Hid _ from h)
  have hlen : (len : Int) ≤ 9223372036854775807 := by
    obtain ⟨a', cap', e, h1, h2, _⟩ := h
    unfold maxLen at h2
    simp at e
    omega
  clear h
  by_cases hl : (1048576 : Int) < (len : Int)
  · clear hg hm
    go_enter Tryd.func3, Tryd.ntmps3
    go_wp2_with fail
    go_ret
    exact ⟨rfl, Below.refl _ _⟩
  · go_enter Tryd.func3, Tryd.ntmps3
    go_wp2_with fail
    refine (drawPlanText_any a len cap w HS.out).mono ?_
    rintro e w1 ⟨t, a2, i2, c2, rfl, hsm, kd, hb1⟩
    have b3 := Bk.new (w := w1) #[.int .i64 t.k, .int .i64 t.n, .slice a2 i2 c2] 25 rfl
    have hbA : Below w1.heap.size w1 (w1.alloc (.cells #[.int .i64 t.k, .int .i64 t.n, .slice a2 i2 c2] 25)) := bAlloc (Below.refl _ _) _
    have kd1 := kd.keep hbA
    have hb2 := bStep hb1 hbA
    have hg2 := cell_below hb2 hg
    have HG := (show Hid _ from hg)
    have HM := (show Hid _ from hm)
    obtain ⟨x0, x1, x2⟩ := b3.three'
    have htl := PT.len_le t
    have hil : i2 = t.len := by obtain ⟨q1, q2, e⟩ := kd.sl; cases e; rfl
    have HSM := (show Hid _ from hsm)
    clear HS kd hb1 hbA hsm hg hm
    subst hil
    go_upto_region 4 with fail
    generalize (w1.alloc (.cells #[.int .i64 t.k, .int .i64 t.n, .slice a2 t.len c2] 25)) = W at *
    generalize w1.heap.size = q at *
    have HK1 := (show Hid _ from kd1)
    clear kd1
    go_wp2_with fail
    refine (implPlanText_any ea HSM.out HK1.out hg2).mono ?_
    rintro e w2 ⟨rfl, hb3⟩
    have b32 := b3.keep hb3
    have HK2 := (show Hid _ from KdS.keep hb3 HK1.out)
    have hb4 := bStep hb2 hb3
    obtain ⟨y0, y1, y2⟩ := b32.three'
    clear x0 x1 x2 hb3 hb2 hg2 HK1 b3
    go_wp2_with fail
    refine (specPlanText_any HK2.out).mono ?_
    rintro e w3 ⟨rfl, hb5⟩
    have b33 := b32.keep hb5
    have HK3 := (show Hid _ from KdS.keep hb5 HK2.out)
    have hb6 := bStep hb4 hb5
    obtain ⟨z0, z1, z2⟩ := b33.three'
    have hqq : (planText t == planText t) = true := by simp
    clear y0 y1 y2 hb5 hb4 HK2 b32
    cases hp : pokB t 4
    · have he : (planText t == []) = true := by unfold planText; rw [hp]; rfl
      clear hp
      go_wp2_with fail
      refine (specPlanText_any HK3.out).mono ?_
      rintro e w4 ⟨rfl, hb7⟩
      have hb8 := bStep hb6 hb7
      go_wp2_with fail
      go_ret
      exact ⟨rfl, hb8⟩
    · have he : (planText t == []) = false := by
        have h1 := text_ne t hp
        unfold planText; rw [hp]; simpa using h1
      have HL : Hid (linesI (planText t) = some t) := by
        show linesI (planText t) = some t
        unfold planText; rw [hp]; exact linesI_text hp
      clear hp
      have hm3 := cell_below hb6 HM.out
      go_wp2_with fail
      refine (implLinesPlan_any (planText t) m w3 hm3).mono ?_
      rintro e w4 ⟨hor, hb7⟩
      have b34 := b33.keep hb7
      have HK4 := (show Hid _ from KdS.keep hb7 HK3.out)
      have hb8 := bStep hb6 hb7
      clear z0 z1 z2 hb7 hb6 b33 HK3 hm3
      rcases hor with ⟨t', a5, n5, c5, hl5, rfl, hk5⟩ | ⟨hl5, -⟩
      · obtain rfl : t = t' := by have := HL.out; rw [hl5] at this; exact (Option.some.inj this).symm
        have bx : Bk (w4.alloc (.cells #[.int .i64 t.k, .int .i64 t.n, .slice a5 n5 c5] 25)) w4.heap.size #[.int .i64 t.k, .int .i64 t.n, .slice a5 n5 c5] 25 := Bk.new _ _ rfl
        have hbA : Below w4.heap.size w4 (w4.alloc (.cells #[.int .i64 t.k, .int .i64 t.n, .slice a5 n5 c5] 25)) := bAlloc (Below.refl _ _) _
        have b35 := b34.keep hbA
        have hb9 := bStep hb8 hbA
        have HLW := (show Hid _ from lwPlan_any t (KdS.keep hbA hk5.kd) (KdS.keep hbA HK4.out))
        obtain ⟨z0, z1, z2⟩ := b35.three'
        obtain ⟨v0, v1, v2⟩ := bx.three'
        clear hk5 hl5 b34 b35 bx hb8 hbA
        go_wp2_with fail
        refine Calls.mono HLW.out ?_
        rintro e w6 ⟨rfl, hb10⟩
        have hbf := bStep hb9 hb10
        go_wp2_with fail
        go_ret
        exact ⟨rfl, hbf⟩
      · rw [HL.out] at hl5; cases hl5
end Go.Proofs.YtfofchgcbdbikaaDoor
