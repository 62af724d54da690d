import Derived.Test.YtldejkhemkjcgaaGreatDoorGmr
import Derived.Test.YtldejkhemkjcgaaGreatDoorDp1
import Derived.Test.YtldejkhemkjcgaaGreatDoorGd3
namespace Go.Proofs.YtldejkhemkjcgaaGreatDoor
open Go.RowKit
theorem sm_less {t : PT} (h : t.sm) : (PT.n1 4 0 t).sm := ⟨⟨by decide, by decide⟩, h⟩
theorem flow_less {t : PT} {K : List (List Rw)} {r : List Rw} (h : flowR t K = some r) (hp : pokB (.n1 4 0 t) 4 = true) : flowR (.n1 4 0 t) K = some (lessL r) := by
  obtain ⟨a, b, rfl, _, ha, hb, hr⟩ := flowR_some h
  rw [flowR_two hp ha hb]; exact plan_less hr
theorem kd_less {B : Nat} {w : World} {t : PT} {a : Option Addr} {n c g : Nat} (h : KdS B w t (.slice a n c)) (hb : Bk w g #[.int .i64 t.k, .int .i64 t.n, .slice a n c] 25) : KdS 0 w (.n1 4 0 t) (.slice (some ⟨g, 0, none⟩) 1 1) := by
  obtain ⟨x0, x1, x2⟩ := hb.three'
  exact ⟨g, 0, 1, _, rfl, Nat.zero_le _, x0, x1, x2, h.less (Nat.zero_le _)⟩
theorem sm_both {t : PT} (h : t.sm) : (PT.n2 3 0 t (.n1 4 0 t)).sm := ⟨⟨by decide, by decide⟩, h, sm_less h⟩
theorem flow_both {t : PT} {K : List (List Rw)} {r : List Rw} (h : flowR t K = some r) (hp : pokB (.n2 3 0 t (.n1 4 0 t)) 4 = true) : flowR (.n2 3 0 t (.n1 4 0 t)) K = some [] := by
  obtain ⟨a, b, rfl, _, ha, hb, hr⟩ := flowR_some h
  rw [flowR_two hp ha hb]; exact plan_both hr
theorem kd_both {B : Nat} {w : World} {t : PT} {a : Option Addr} {n c g g' : Nat} (h : KdS B w t (.slice a n c)) (hb : Bk w g #[.int .i64 t.k, .int .i64 t.n, .slice a n c] 25) (hb' : Bk w g' #[.int .i64 t.k, .int .i64 t.n, .slice a n c, .int .i64 4, .int .i64 0, .slice (some ⟨g, 0, none⟩) 1 1] 25) : KdS 0 w (.n2 3 0 t (.n1 4 0 t)) (.slice (some ⟨g', 0, none⟩) 2 2) := by
  have c : ∀ i u, #[Value.int .i64 t.k, .int .i64 t.n, .slice a n c, .int .i64 4, .int .i64 0, .slice (some ⟨g, 0, none⟩) 1 1][i]? = some u → w.cell? ⟨g', i, none⟩ = some u := fun i u e => by
    unfold Bk at hb'; simp [World.cell?, hb', e]
  exact ⟨g', 0, 2, _, _, rfl, Nat.zero_le _, c 0 _ rfl, c 1 _ rfl, c 2 _ rfl, c 3 _ rfl, c 4 _ rfl, c 5 _ rfl, h.less (Nat.zero_le _), kd_less h hb⟩
namespace FnPlanBoth
set_option maxRecDepth 100000 in
set_option maxHeartbeats 8000000 in
theorem walk (ea : Addr) (x0 : Option Addr) (len0 cap0 : Nat) (w : World) (h0 : Src w (.slice x0 len0 cap0) len0) (hg : w.cell? ⟨0, 0, none⟩ = some (erV ea)) :
    Calls Tryz.prog 8 #[.slice x0 len0 cap0] w fun e w' => e = .returned (.bool true) ∧ Below w.heap.size w w' := by
  by_cases g0 : (1048576 : Int) < (len0 : Int)
  · go_enter Tryz.func8, Tryz.ntmps8
    go_wp2_with fail
    go_ret
    exact ⟨rfl, Below.refl _ _⟩
  go_enter Tryz.func8, Tryz.ntmps8
  go_wp2_with fail
  refine (drawPlanFlow_any _ _ _ _ h0).mono ?_
  rintro e w1 ⟨t, a2, i2, c2, iv, K, rfl, hsm, KD_1, LY_1, hfew, hKl, hb1⟩
  have hbw1 := hb1
  clear h0 hb1
  obtain rfl : i2 = t.len := by obtain ⟨q1, q2, e⟩ := KdS.sl KD_1; cases e; rfl
  obtain ⟨ia, ic, eiv⟩ := LyR.sl LY_1
  subst eiv
  have HM := (show Hid (t.sm) from hsm)
  have HW := (show Hid (∀ l ∈ K, fewR l) from hfew)
  clear hsm hfew
  have hbx2 : Below w1.heap.size w1 (w1.alloc (.cells #[.int .i64 t.k, .int .i64 t.n, .slice a2 t.len c2] 25)) := bAlloc (Below.refl _ _) _
  have PB_2 : Bk (w1.alloc (.cells #[.int .i64 t.k, .int .i64 t.n, .slice a2 t.len c2] 25)) w1.heap.size #[.int .i64 t.k, .int .i64 t.n, .slice a2 t.len c2] 25 := Bk.new _ _ rfl
  have KD_2 := KD_1.keep hbx2
  have LY_2 := LY_1.keep hbx2
  have hbw2 := bStep hbw1 hbx2
  clear KD_1 LY_1 hbw1 hbx2
  rcases hf : flowR t K with _ | r
  · have HF := (show Hid (flowR t K = none) from hf)
    clear hf
    obtain ⟨y00_2, y01_2, y02_2⟩ := PB_2.three'
    go_wp2_with fail
    clear y00_2 y01_2 y02_2
    refine (specFlow_no HF.out KD_2 LY_2).mono ?_
    rintro e w3 ⟨ow, rfl, W_3, hb3⟩
    have KD_3 := KD_2.keep hb3
    have LY_3 := LY_2.keep hb3
    have PB_3 := PB_2.keep hb3
    have hbw3 := bStep hbw2 hb3
    clear KD_2 LY_2 PB_2 hbw2 hb3
    obtain ⟨y00_3, y01_3, y02_3⟩ := PB_3.three'
    go_wp2_with fail
    clear y00_3 y01_3 y02_3
    refine (implFlow_no ea HF.out HM.out KD_3 LY_3 (cell_below hbw3 hg)).mono ?_
    rintro e w4 ⟨ox, rfl, X_4, hb4⟩
    have KD_4 := KD_3.keep hb4
    have LY_4 := LY_3.keep hb4
    have PB_4 := PB_3.keep hb4
    have W_4 := W_3.keep hb4
    have hbw4 := bStep hbw3 hb4
    clear KD_3 LY_3 PB_3 W_3 hbw3 hb4
    obtain ⟨ax, cx, ex, -⟩ := Rs.open X_4
    subst ex
    obtain ⟨y00_4, y01_4, y02_4⟩ := PB_4.three'
    go_wp2_with fail
    clear y00_4 y01_4 y02_4
    refine (lwRows_eq (selfR _) X_4 W_4).mono ?_
    rintro e w5 ⟨rfl, hb5⟩
    have KD_5 := KD_4.keep hb5
    have LY_5 := LY_4.keep hb5
    have PB_5 := PB_4.keep hb5
    have W_5 := W_4.keep hb5
    have X_5 := X_4.keep hb5
    have hbw5 := bStep hbw4 hb5
    clear KD_4 LY_4 PB_4 W_4 X_4 hbw4 hb5
    obtain ⟨y00_5, y01_5, y02_5⟩ := PB_5.three'
    go_wp2_with fail
    clear y00_5 y01_5 y02_5
    refine (lwRows_eq (selfR _) X_5 W_5).mono ?_
    rintro e w6 ⟨rfl, hb6⟩
    have KD_6 := KD_5.keep hb6
    have LY_6 := LY_5.keep hb6
    have PB_6 := PB_5.keep hb6
    have W_6 := W_5.keep hb6
    have X_6 := X_5.keep hb6
    have hbw6 := bStep hbw5 hb6
    clear KD_5 LY_5 PB_5 W_5 X_5 hbw5 hb6
    obtain ⟨y00_6, y01_6, y02_6⟩ := PB_6.three'
    go_wp2_with fail
    go_ret
    exact ⟨rfl, hbw6⟩
  · have HF := (show Hid (flowR t K = some r) from hf)
    have hrl := flowR_len hf
    clear hf
    obtain ⟨y00_2, y01_2, y02_2⟩ := PB_2.three'
    go_wp2_with fail
    clear y00_2 y01_2 y02_2
    refine (specFlow_yes HF.out KD_2 LY_2).mono ?_
    rintro e w3 ⟨ow, rfl, W_3, hb3⟩
    have KD_3 := KD_2.keep hb3
    have LY_3 := LY_2.keep hb3
    have PB_3 := PB_2.keep hb3
    have hbw3 := bStep hbw2 hb3
    clear KD_2 LY_2 PB_2 hbw2 hb3
    obtain ⟨y00_3, y01_3, y02_3⟩ := PB_3.three'
    go_wp2_with fail
    clear y00_3 y01_3 y02_3
    refine (implFlow_yes ea HF.out HM.out KD_3 LY_3 (cell_below hbw3 hg)).mono ?_
    rintro e w4 ⟨ox, rfl, X_4, hb4⟩
    have KD_4 := KD_3.keep hb4
    have LY_4 := LY_3.keep hb4
    have PB_4 := PB_3.keep hb4
    have W_4 := W_3.keep hb4
    have hbw4 := bStep hbw3 hb4
    clear KD_3 LY_3 PB_3 W_3 hbw3 hb4
    obtain ⟨y00_4, y01_4, y02_4⟩ := PB_4.three'
    go_wp2_with fail
    clear y00_4 y01_4 y02_4
    refine (lwRows_eq (selfR _) X_4 W_4).mono ?_
    rintro e w5 ⟨rfl, hb5⟩
    have KD_5 := KD_4.keep hb5
    have LY_5 := LY_4.keep hb5
    have PB_5 := PB_4.keep hb5
    have X_5 := X_4.keep hb5
    have hbw5 := bStep hbw4 hb5
    clear KD_4 LY_4 PB_4 W_4 X_4 hbw4 hb5
    obtain ⟨z00, z01, z02⟩ := PB_5.three'
    have hbx6 : Below w5.heap.size w5 (w5.alloc (.cells #[.int .i64 t.k, .int .i64 t.n, .slice a2 t.len c2] 25)) := bAlloc (Below.refl _ _) _
    have SL_6 : Bk (w5.alloc (.cells #[.int .i64 t.k, .int .i64 t.n, .slice a2 t.len c2] 25)) (w5.heap.size) #[.int .i64 t.k, .int .i64 t.n, .slice a2 t.len c2] 25 := Bk.new _ _ (by simp)
    have KD_6 := KD_5.keep hbx6
    have LY_6 := LY_5.keep hbx6
    have PB_6 := PB_5.keep hbx6
    have X_6 := X_5.keep hbx6
    have hbw6 := bStep hbw5 hbx6
    clear KD_5 LY_5 PB_5 X_5 hbw5 hbx6
    have hbx7 : Below (w5.alloc (.cells #[.int .i64 t.k, .int .i64 t.n, .slice a2 t.len c2] 25)).heap.size (w5.alloc (.cells #[.int .i64 t.k, .int .i64 t.n, .slice a2 t.len c2] 25)) ((w5.alloc (.cells #[.int .i64 t.k, .int .i64 t.n, .slice a2 t.len c2] 25)).alloc (.cells #[.int .i64 t.k, .int .i64 t.n, .slice a2 t.len c2, .int .i64 4, .int .i64 0, .slice (some ⟨w5.heap.size, 0, none⟩) 1 1] 25)) := bAlloc (Below.refl _ _) _
    have SB_7 : Bk ((w5.alloc (.cells #[.int .i64 t.k, .int .i64 t.n, .slice a2 t.len c2] 25)).alloc (.cells #[.int .i64 t.k, .int .i64 t.n, .slice a2 t.len c2, .int .i64 4, .int .i64 0, .slice (some ⟨w5.heap.size, 0, none⟩) 1 1] 25)) (w5.heap.size + 1) #[.int .i64 t.k, .int .i64 t.n, .slice a2 t.len c2, .int .i64 4, .int .i64 0, .slice (some ⟨w5.heap.size, 0, none⟩) 1 1] 25 := Bk.new _ _ (by simp)
    have KD_7 := KD_6.keep hbx7
    have LY_7 := LY_6.keep hbx7
    have PB_7 := PB_6.keep hbx7
    have X_7 := X_6.keep hbx7
    have SL_7 := SL_6.keep hbx7
    have hbw7 := bStep hbw6 hbx7
    clear KD_6 LY_6 PB_6 X_6 SL_6 hbw6 hbx7
    have hbx8 : Below ((w5.alloc (.cells #[.int .i64 t.k, .int .i64 t.n, .slice a2 t.len c2] 25)).alloc (.cells #[.int .i64 t.k, .int .i64 t.n, .slice a2 t.len c2, .int .i64 4, .int .i64 0, .slice (some ⟨w5.heap.size, 0, none⟩) 1 1] 25)).heap.size ((w5.alloc (.cells #[.int .i64 t.k, .int .i64 t.n, .slice a2 t.len c2] 25)).alloc (.cells #[.int .i64 t.k, .int .i64 t.n, .slice a2 t.len c2, .int .i64 4, .int .i64 0, .slice (some ⟨w5.heap.size, 0, none⟩) 1 1] 25)) (((w5.alloc (.cells #[.int .i64 t.k, .int .i64 t.n, .slice a2 t.len c2] 25)).alloc (.cells #[.int .i64 t.k, .int .i64 t.n, .slice a2 t.len c2, .int .i64 4, .int .i64 0, .slice (some ⟨w5.heap.size, 0, none⟩) 1 1] 25)).alloc (.cells #[.int .i64 3, .int .i64 0, .slice (some ⟨w5.heap.size + 1, 0, none⟩) 2 2] 25)) := bAlloc (Below.refl _ _) _
    have LB_8 : Bk (((w5.alloc (.cells #[.int .i64 t.k, .int .i64 t.n, .slice a2 t.len c2] 25)).alloc (.cells #[.int .i64 t.k, .int .i64 t.n, .slice a2 t.len c2, .int .i64 4, .int .i64 0, .slice (some ⟨w5.heap.size, 0, none⟩) 1 1] 25)).alloc (.cells #[.int .i64 3, .int .i64 0, .slice (some ⟨w5.heap.size + 1, 0, none⟩) 2 2] 25)) (w5.heap.size + 1 + 1) #[.int .i64 3, .int .i64 0, .slice (some ⟨w5.heap.size + 1, 0, none⟩) 2 2] 25 := Bk.new _ _ (by simp)
    have KD_8 := KD_7.keep hbx8
    have LY_8 := LY_7.keep hbx8
    have PB_8 := PB_7.keep hbx8
    have X_8 := X_7.keep hbx8
    have SL_8 := SL_7.keep hbx8
    have SB_8 := SB_7.keep hbx8
    have hbw8 := bStep hbw7 hbx8
    clear KD_7 LY_7 PB_7 X_7 SL_7 SB_7 hbw7 hbx8
    have HK2 := (show Hid _ from kd_both KD_8 SL_8 SB_8)
    have D_8 : KdS 0 _ (.n2 3 0 t (.n1 4 0 t)) _ := HK2.out
    cases hp : pokB (.n2 3 0 t (.n1 4 0 t)) 4
    · have HF2 : Hid (flowR (.n2 3 0 t (.n1 4 0 t)) K = none) := flowR_no1 hp
      obtain ⟨y00_8, y01_8, y02_8⟩ := PB_8.three'
      obtain ⟨y10_8, y11_8, y12_8⟩ := LB_8.three'
      go_wp2_with fail
      clear y00_8 y01_8 y02_8 y10_8 y11_8 y12_8
      refine (implFlow_no ea (t := .n2 3 0 t (.n1 4 0 t)) HF2.out (sm_both HM.out) D_8 LY_8 (cell_below hbw8 hg)).mono ?_
      rintro e w9 ⟨oy, rfl, Y_9, hb9⟩
      have KD_9 := KD_8.keep hb9
      have LY_9 := LY_8.keep hb9
      have PB_9 := PB_8.keep hb9
      have X_9 := X_8.keep hb9
      have SL_9 := SL_8.keep hb9
      have SB_9 := SB_8.keep hb9
      have LB_9 := LB_8.keep hb9
      have D_9 := D_8.keep hb9
      have hbw9 := bStep hbw8 hb9
      clear KD_8 LY_8 PB_8 X_8 SL_8 SB_8 LB_8 D_8 hbw8 hb9
      obtain ⟨ay, cy, ey, -⟩ := Rs.open Y_9
      subst ey
      obtain ⟨y00_9, y01_9, y02_9⟩ := PB_9.three'
      obtain ⟨y10_9, y11_9, y12_9⟩ := LB_9.three'
      go_wp2_with fail
      clear y00_9 y01_9 y02_9 y10_9 y11_9 y12_9
      refine (planOk_eq ea (t := .n2 3 0 t (.n1 4 0 t)) hp (sm_both HM.out) D_9 (cell_below hbw9 hg)).mono ?_
      rintro e w10 ⟨rfl, hb10⟩
      have KD_10 := KD_9.keep hb10
      have LY_10 := LY_9.keep hb10
      have PB_10 := PB_9.keep hb10
      have X_10 := X_9.keep hb10
      have SL_10 := SL_9.keep hb10
      have SB_10 := SB_9.keep hb10
      have LB_10 := LB_9.keep hb10
      have D_10 := D_9.keep hb10
      have Y_10 := Y_9.keep hb10
      have hbw10 := bStep hbw9 hb10
      clear KD_9 LY_9 PB_9 X_9 SL_9 SB_9 LB_9 D_9 Y_9 hbw9 hb10
      obtain ⟨y00_10, y01_10, y02_10⟩ := PB_10.three'
      obtain ⟨y10_10, y11_10, y12_10⟩ := LB_10.three'
      go_wp2_with fail
      go_ret
      exact ⟨rfl, hbw10⟩
    · have HF2 : Hid (flowR (.n2 3 0 t (.n1 4 0 t)) K = some []) := flow_both HF.out hp
      obtain ⟨y00_8, y01_8, y02_8⟩ := PB_8.three'
      obtain ⟨y10_8, y11_8, y12_8⟩ := LB_8.three'
      go_wp2_with fail
      clear y00_8 y01_8 y02_8 y10_8 y11_8 y12_8
      refine (implFlow_yes ea (t := .n2 3 0 t (.n1 4 0 t)) HF2.out (sm_both HM.out) D_8 LY_8 (cell_below hbw8 hg)).mono ?_
      rintro e w9 ⟨oy, rfl, Y_9, hb9⟩
      have KD_9 := KD_8.keep hb9
      have LY_9 := LY_8.keep hb9
      have PB_9 := PB_8.keep hb9
      have X_9 := X_8.keep hb9
      have SL_9 := SL_8.keep hb9
      have SB_9 := SB_8.keep hb9
      have LB_9 := LB_8.keep hb9
      have D_9 := D_8.keep hb9
      have hbw9 := bStep hbw8 hb9
      clear KD_8 LY_8 PB_8 X_8 SL_8 SB_8 LB_8 D_8 hbw8 hb9
      obtain ⟨ay, cy, ey, -⟩ := Rs.open Y_9
      subst ey
      obtain ⟨y00_9, y01_9, y02_9⟩ := PB_9.three'
      obtain ⟨y10_9, y11_9, y12_9⟩ := LB_9.three'
      go_wp2_with fail
      clear y00_9 y01_9 y02_9 y10_9 y11_9 y12_9
      refine (planOk_eq ea (t := .n2 3 0 t (.n1 4 0 t)) hp (sm_both HM.out) D_9 (cell_below hbw9 hg)).mono ?_
      rintro e w10 ⟨rfl, hb10⟩
      have KD_10 := KD_9.keep hb10
      have LY_10 := LY_9.keep hb10
      have PB_10 := PB_9.keep hb10
      have X_10 := X_9.keep hb10
      have SL_10 := SL_9.keep hb10
      have SB_10 := SB_9.keep hb10
      have LB_10 := LB_9.keep hb10
      have D_10 := D_9.keep hb10
      have Y_10 := Y_9.keep hb10
      have hbw10 := bStep hbw9 hb10
      clear KD_9 LY_9 PB_9 X_9 SL_9 SB_9 LB_9 D_9 Y_9 hbw9 hb10
      obtain ⟨y00_10, y01_10, y02_10⟩ := PB_10.three'
      obtain ⟨y10_10, y11_10, y12_10⟩ := LB_10.three'
      go_wp2_with fail
      go_ret
      exact ⟨rfl, hbw10⟩
end FnPlanBoth
end Go.Proofs.YtldejkhemkjcgaaGreatDoor
