/- The law of PlanOk: its walk. -/
import Derived.Test.YtljbogiecnhgmaaDoorPl6
import Derived.Test.YtljbogiecnhgmaaDoorPl9
namespace Go.Proofs.YtljbogiecnhgmaaDoor
open Go.RowKit Go.Shelf

set_option maxRecDepth 100000 in
set_option maxHeartbeats 16000000 in
theorem FnPlanOk.walk (ea : Addr) (a : Option Addr) (len cap : Nat) (w : World) (h : Src w (.slice a len cap) len) (hg : w.cell? ⟨0, 0, none⟩ = some (erV ea)) :
    Calls Tryd.prog 3 #[.slice a len cap] w fun e w' => e = .returned (.bool true) ∧ Below w.heap.size w w' := by
  have HS := (show Hid _ from h)
  have hlen : (len : Int) ≤ 9223372036854775807 := by
    obtain ⟨a', cap', e, h1, h2, _⟩ := h
    unfold maxLen at h2
    simp at e
    omega
  clear h
  by_cases hl : (1048576 : Int) < (len : Int)
  · go_enter Tryd.func3, Tryd.ntmps3
    go_wp2_with fail
    go_ret
    exact ⟨rfl, Below.refl _ _⟩
  · go_enter Tryd.func3, Tryd.ntmps3
    go_wp2_with fail
    refine (drawPlanOk_any a len cap w HS.out).mono ?_
    rintro e w1 ⟨t, a2, i2, c2, rfl, hsm, kd, hb1⟩
    have b3 := Bk.new (w := w1) #[.int .i64 t.k, .int .i64 t.n, .slice a2 i2 c2] 25 rfl
    have hbA : Below w1.heap.size w1 (w1.alloc (.cells #[.int .i64 t.k, .int .i64 t.n, .slice a2 i2 c2] 25)) := bAlloc (Below.refl _ _) _
    have kd1 := kd.keep hbA
    have hb2 := bStep hb1 hbA
    have hg2 := cell_below hb2 hg
    obtain ⟨x0, x1, x2⟩ := b3.three'
    have htl := PT.len_le t
    have hil : i2 = t.len := by obtain ⟨q1, q2, e⟩ := kd.sl; cases e; rfl
    have HM := (show Hid _ from hsm)
    clear HS kd hb1 hbA hsm
    subst hil
    go_wp2_with fail
    generalize (w1.alloc (.cells #[.int .i64 t.k, .int .i64 t.n, .slice a2 t.len c2] 25)) = W at *
    generalize w1.heap.size = q at *
    have HK1 := (show Hid _ from kd1)
    clear kd1
    refine (implPlanOk_any ea HM.out HK1.out hg2).mono ?_
    rintro e w2 ⟨rfl, hb3⟩
    have b32 := b3.keep hb3
    have HK2 := (show Hid _ from HK1.out.keep hb3)
    have hb4 := bStep hb2 hb3
    have hg4 := cell_below hb4 hg
    obtain ⟨y0, y1, y2⟩ := b32.three'
    clear x0 x1 x2 hb3 hb2 hg2 HK1 b3
    cases hp : pokB t 4
    · go_wp2_with fail
      refine (specPlanOk_any HK2.out).mono ?_
      rintro e w3 ⟨rfl, hb5⟩
      have b33 := b32.keep hb5
      have HK3 := (show Hid _ from HK2.out.keep hb5)
      have hb6 := bStep hb4 hb5
      obtain ⟨z0, z1, z2⟩ := b33.three'
      rw [hp]
      go_wp2_with fail
      refine (specPlanOk_any HK3.out).mono ?_
      rintro e w4 ⟨rfl, hb7⟩
      have hb8 := bStep hb6 hb7
      rw [hp]
      go_wp2_with fail
      go_ret
      exact ⟨rfl, hb8⟩
    · go_wp2_with fail
      refine (specPlanOk_any HK2.out).mono ?_
      rintro e w3 ⟨rfl, hb5⟩
      have b33 := b32.keep hb5
      have HK3 := (show Hid _ from HK2.out.keep hb5)
      have hb6 := bStep hb4 hb5
      have HP := (show Hid _ from (pok_parts hp).2)
      rw [hp]
      clear y0 y1 y2 hb5 hb4 HK2 b32 hg4 hp
      go_wp2_with fail
      go_loopw [5] (fun i wr => ∃ k : Nat, i = .int .i64 k ∧ k ≤ t.len ∧ Bk wr q #[.int .i64 t.k, .int .i64 t.n, .slice a2 t.len c2] 25 ∧ KdS w.heap.size wr t (.slice a2 t.len c2) ∧ Below w.heap.size w wr) (fun i _ => t.len - (intOf i).toNat)
      case atStart => exact ⟨0, rfl, Nat.zero_le _, b33, HK3.out, hb6⟩
      case round =>
        obtain ⟨k, rfl, hkl, bk, kdr, hb⟩ := hrel
        obtain ⟨z0, z1, z2⟩ := bk.three'
        have HKR := (show Hid _ from kdr)
        clear kdr b33 HK3 hb6
        by_cases hlt2 : k < t.len
        · have ik : ((k : Int) < (t.len : Int)) := by omega
          obtain ⟨g, off, sx, rfl, hgl, c0, c1, c2', hkid, bb, m2, d2, rfl⟩ := HKR.out.at hlt2
          have hg5 := cell_below hb hg
          have HKI := (show Hid _ from hkid)
          have HX : Hid (pokB (t.kid k) 4 = true) := pok_more (HP.out k hlt2)
          clear hkid
          go_wp2_with fail
          refine (implPlanOk_any ea (PT.sm_kid HM.out hlt2) HKI.out hg5).mono ?_
          rintro e w7 ⟨rfl, hb7⟩
          have hb8 := bStep hb hb7
          have bk7 := bk.keep hb7
          have HK7 := (show Hid _ from HKR.out.keep hb7)
          rw [HX.out]
          clear z0 z1 z2 c0 c1 c2' bk
          go_wp2_with fail
          go_roundw
          case rel => exact ⟨k + 1, by go_num, by omega, bk7, HK7.out, hb8⟩
          case measure => simp [intOf]; omega
        · obtain rfl : k = t.len := by omega
          have ik : ¬ ((t.len : Int) < (t.len : Int)) := by omega
          go_wp2_with fail
          go_ret
          exact ⟨rfl, hb⟩
end Go.Proofs.YtljbogiecnhgmaaDoor
