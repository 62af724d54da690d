import Derived.Test.YtldejkhemkjcgaaGreatDoorGmr
import Derived.Test.YtldejkhemkjcgaaGreatDoorDp1
import Derived.Test.YtldejkhemkjcgaaGreatDoorGd3
import Derived.Test.YtldejkhemkjcgaaGreatDoorPw1
import Derived.Test.YtldejkhemkjcgaaGreatDoorGa8
namespace Go.Proofs.YtldejkhemkjcgaaGreatDoor
open Go.RowKit
theorem flow_moved {t : PT} {K : List (List Rw)} {f : List (Int × Int)} {r r' : List Rw} (hW : ∀ l ∈ K, fewR l) (hf : fokB f = true) (h : flowR t K = some r) (h' : flowR t (K.map fun l => bmoveL l f) = some r') (X Y : Int) (hX : okB X Y = true) (hc : askedB f X Y = true) : itemsL r X Y = itemsL r' X Y := by
  obtain ⟨a, b, rfl, hp, ha, hb, hr⟩ := flowR_some h
  obtain ⟨a', b', e, _, ha', hb', hr'⟩ := flowR_some h'
  simp only [List.map_cons, List.map_nil, List.cons.injEq, and_true] at e
  obtain ⟨rfl, rfl⟩ := e
  have wa := (hW a (by simp)).2 (bok_rok ha)
  have wb := (hW b (by simp)).2 (bok_rok hb)
  exact plan_same ha hb ha' hb' hp hr hr' hX hX (move_items hf (bok_rok ha) (by omega) hX hc) (move_items hf (bok_rok hb) (by omega) hX hc)
namespace FnPlanMove
set_option maxRecDepth 100000 in
set_option maxHeartbeats 8000000 in
theorem walk (ea : Addr) (x0 : Option Addr) (len0 cap0 : Nat) (x1 : Option Addr) (len1 cap1 : Nat) (w : World) (h0 : Src w (.slice x0 len0 cap0) len0) (h1 : Src w (.slice x1 len1 cap1) len1) (hg : w.cell? ⟨0, 0, none⟩ = some (erV ea)) :
    Calls Tryz.prog 5 #[.slice x0 len0 cap0, .slice x1 len1 cap1] w fun e w' => e = .returned (.bool true) ∧ Below w.heap.size w w' := by
  by_cases g0 : (1048576 : Int) < (len0 : Int)
  · go_enter Tryz.func5, Tryz.ntmps5
    go_wp2_with fail
    go_ret
    exact ⟨rfl, Below.refl _ _⟩
  by_cases g1 : (1048576 : Int) < (len1 : Int)
  · go_enter Tryz.func5, Tryz.ntmps5
    go_wp2_with fail
    go_ret
    exact ⟨rfl, Below.refl _ _⟩
  go_enter Tryz.func5, Tryz.ntmps5
  go_wp2_with fail
  refine (drawPlanFlow_any _ _ _ _ h0).mono ?_
  rintro e w1 ⟨t, a2, i2, c2, iv, K, rfl, hsm, KD_1, LY_1, hfew, hKl, hb1⟩
  have h1_1 := h1.keep hb1
  have hbw1 := hb1
  clear h0 h1 hb1
  obtain rfl : i2 = t.len := by obtain ⟨q1, q2, e⟩ := KdS.sl KD_1; cases e; rfl
  obtain ⟨ia, ic, eiv⟩ := LyR.sl LY_1
  subst eiv
  have HM := (show Hid (t.sm) from hsm)
  have HW := (show Hid (∀ l ∈ K, fewR l) from hfew)
  clear hsm hfew
  have hbx2 : Below w1.heap.size w1 (w1.alloc (.cells #[.int .i64 t.k, .int .i64 t.n, .slice a2 t.len c2] 25)) := bAlloc (Below.refl _ _) _
  have PB_2 : Bk (w1.alloc (.cells #[.int .i64 t.k, .int .i64 t.n, .slice a2 t.len c2] 25)) w1.heap.size #[.int .i64 t.k, .int .i64 t.n, .slice a2 t.len c2] 25 := Bk.new _ _ rfl
  have h1_2 := h1_1.keep hbx2
  have KD_2 := KD_1.keep hbx2
  have LY_2 := LY_1.keep hbx2
  have hbw2 := bStep hbw1 hbx2
  clear h1_1 KD_1 LY_1 hbw1 hbx2
  obtain ⟨y00_2, y01_2, y02_2⟩ := PB_2.three'
  go_wp2_with fail
  clear y00_2 y01_2 y02_2
  refine (drawBatchMove_any _ _ _ _ h1_2).mono ?_
  rintro e w3 ⟨oq, ot, lq, f, rfl, hdq, hlf, Rq_3, T_3, hb3⟩
  have KD_3 := KD_2.keep hb3
  have LY_3 := LY_2.keep hb3
  have PB_3 := PB_2.keep hb3
  have hbw3 := bStep hbw2 hb3
  clear h1_2 KD_2 LY_2 PB_2 hbw2 hb3
  clear Rq_3
  rcases hf : flowR t K with _ | r
  · have HF := (show Hid (flowR t K = none) from hf)
    clear hf
    obtain ⟨y00_3, y01_3, y02_3⟩ := PB_3.three'
    go_wp2_with fail
    clear y00_3 y01_3 y02_3
    refine (specFlow_no HF.out KD_3 LY_3).mono ?_
    rintro e w4 ⟨ow, rfl, W_4, hb4⟩
    have KD_4 := KD_3.keep hb4
    have LY_4 := LY_3.keep hb4
    have PB_4 := PB_3.keep hb4
    have T_4 := T_3.keep hb4
    have hbw4 := bStep hbw3 hb4
    clear KD_3 LY_3 PB_3 T_3 hbw3 hb4
    obtain ⟨y00_4, y01_4, y02_4⟩ := PB_4.three'
    go_wp2_with fail
    clear y00_4 y01_4 y02_4
    refine (implFlow_no ea HF.out HM.out KD_4 LY_4 (cell_below hbw4 hg)).mono ?_
    rintro e w5 ⟨ox, rfl, X_5, hb5⟩
    have KD_5 := KD_4.keep hb5
    have LY_5 := LY_4.keep hb5
    have PB_5 := PB_4.keep hb5
    have T_5 := T_4.keep hb5
    have W_5 := W_4.keep hb5
    have hbw5 := bStep hbw4 hb5
    clear KD_4 LY_4 PB_4 T_4 W_4 hbw4 hb5
    obtain ⟨ax, cx, ex, -⟩ := Rs.open X_5
    subst ex
    obtain ⟨y00_5, y01_5, y02_5⟩ := PB_5.three'
    go_wp2_with fail
    clear y00_5 y01_5 y02_5
    refine (lwRows_eq (selfR _) X_5 W_5).mono ?_
    rintro e w6 ⟨rfl, hb6⟩
    have KD_6 := KD_5.keep hb6
    have LY_6 := LY_5.keep hb6
    have PB_6 := PB_5.keep hb6
    have T_6 := T_5.keep hb6
    have W_6 := W_5.keep hb6
    have X_6 := X_5.keep hb6
    have hbw6 := bStep hbw5 hb6
    clear KD_5 LY_5 PB_5 T_5 W_5 X_5 hbw5 hb6
    obtain ⟨y00_6, y01_6, y02_6⟩ := PB_6.three'
    go_wp2_with fail
    clear y00_6 y01_6 y02_6
    refine (lwRows_eq (selfR _) X_6 W_6).mono ?_
    rintro e w7 ⟨rfl, hb7⟩
    have KD_7 := KD_6.keep hb7
    have LY_7 := LY_6.keep hb7
    have PB_7 := PB_6.keep hb7
    have T_7 := T_6.keep hb7
    have W_7 := W_6.keep hb7
    have X_7 := X_6.keep hb7
    have hbw7 := bStep hbw6 hb7
    clear KD_6 LY_6 PB_6 T_6 W_6 X_6 hbw6 hb7
    obtain ⟨y00_7, y01_7, y02_7⟩ := PB_7.three'
    go_wp2_with fail
    go_ret
    exact ⟨rfl, hbw7⟩
  · have HF := (show Hid (flowR t K = some r) from hf)
    have hrl := flowR_len hf
    clear hf
    obtain ⟨y00_3, y01_3, y02_3⟩ := PB_3.three'
    go_wp2_with fail
    clear y00_3 y01_3 y02_3
    refine (specFlow_yes HF.out KD_3 LY_3).mono ?_
    rintro e w4 ⟨ow, rfl, W_4, hb4⟩
    have KD_4 := KD_3.keep hb4
    have LY_4 := LY_3.keep hb4
    have PB_4 := PB_3.keep hb4
    have T_4 := T_3.keep hb4
    have hbw4 := bStep hbw3 hb4
    clear KD_3 LY_3 PB_3 T_3 hbw3 hb4
    obtain ⟨y00_4, y01_4, y02_4⟩ := PB_4.three'
    go_wp2_with fail
    clear y00_4 y01_4 y02_4
    refine (implFlow_yes ea HF.out HM.out KD_4 LY_4 (cell_below hbw4 hg)).mono ?_
    rintro e w5 ⟨ox, rfl, X_5, hb5⟩
    have KD_5 := KD_4.keep hb5
    have LY_5 := LY_4.keep hb5
    have PB_5 := PB_4.keep hb5
    have T_5 := T_4.keep hb5
    have W_5 := W_4.keep hb5
    have hbw5 := bStep hbw4 hb5
    clear KD_4 LY_4 PB_4 T_4 W_4 hbw4 hb5
    cases hk : fokB f
    · obtain ⟨y00_5, y01_5, y02_5⟩ := PB_5.three'
      go_wp2_with fail
      clear y00_5 y01_5 y02_5
      refine (lwRows_eq (selfR _) X_5 W_5).mono ?_
      rintro e w6 ⟨rfl, hb6⟩
      have KD_6 := KD_5.keep hb6
      have LY_6 := LY_5.keep hb6
      have PB_6 := PB_5.keep hb6
      have T_6 := T_5.keep hb6
      have W_6 := W_5.keep hb6
      have X_6 := X_5.keep hb6
      have hbw6 := bStep hbw5 hb6
      clear KD_5 LY_5 PB_5 T_5 W_5 X_5 hbw5 hb6
      obtain ⟨y00_6, y01_6, y02_6⟩ := PB_6.three'
      go_wp2_with fail
      clear y00_6 y01_6 y02_6
      refine (specFrontOk_eq hk T_6).mono ?_
      rintro e w7 ⟨rfl, hb7⟩
      have KD_7 := KD_6.keep hb7
      have LY_7 := LY_6.keep hb7
      have PB_7 := PB_6.keep hb7
      have T_7 := T_6.keep hb7
      have W_7 := W_6.keep hb7
      have X_7 := X_6.keep hb7
      have hbw7 := bStep hbw6 hb7
      clear KD_6 LY_6 PB_6 T_6 W_6 X_6 hbw6 hb7
      obtain ⟨y00_7, y01_7, y02_7⟩ := PB_7.three'
      go_wp2_with fail
      clear y00_7 y01_7 y02_7
      refine (lwRows_eq (selfR _) X_7 W_7).mono ?_
      rintro e w8 ⟨rfl, hb8⟩
      have KD_8 := KD_7.keep hb8
      have LY_8 := LY_7.keep hb8
      have PB_8 := PB_7.keep hb8
      have T_8 := T_7.keep hb8
      have W_8 := W_7.keep hb8
      have X_8 := X_7.keep hb8
      have hbw8 := bStep hbw7 hb8
      clear KD_7 LY_7 PB_7 T_7 W_7 X_7 hbw7 hb8
      obtain ⟨y00_8, y01_8, y02_8⟩ := PB_8.three'
      go_wp2_with fail
      go_ret
      exact ⟨rfl, hbw8⟩
    · obtain ⟨y00_5, y01_5, y02_5⟩ := PB_5.three'
      go_wp2_with fail
      clear y00_5 y01_5 y02_5
      refine (lwRows_eq (selfR _) X_5 W_5).mono ?_
      rintro e w6 ⟨rfl, hb6⟩
      have KD_6 := KD_5.keep hb6
      have LY_6 := LY_5.keep hb6
      have PB_6 := PB_5.keep hb6
      have T_6 := T_5.keep hb6
      have X_6 := X_5.keep hb6
      have hbw6 := bStep hbw5 hb6
      clear KD_5 LY_5 PB_5 T_5 W_5 X_5 hbw5 hb6
      obtain ⟨y00_6, y01_6, y02_6⟩ := PB_6.three'
      go_wp2_with fail
      clear y00_6 y01_6 y02_6
      refine (specFrontOk_eq hk T_6).mono ?_
      rintro e w7 ⟨rfl, hb7⟩
      have KD_7 := KD_6.keep hb7
      have LY_7 := LY_6.keep hb7
      have PB_7 := PB_6.keep hb7
      have T_7 := T_6.keep hb7
      have X_7 := X_6.keep hb7
      have hbw7 := bStep hbw6 hb7
      clear KD_6 LY_6 PB_6 T_6 X_6 hbw6 hb7
      have hK2 : K.length ≤ 2 := by omega
      rcases hf2 : flowR t (K.map fun l => bmoveL l f) with _ | r2
      · have HF2 := (show Hid (flowR t (K.map fun l => bmoveL l f) = none) from hf2)
        clear hf2
        have hcur8 : Below w7.heap.size w7 w7.drew := (Below.refl _ _).drew
        have HX8 : Hid (∀ V : World, Below w7.heap.size w7 V → V.cell? ⟨w1.heap.size, 0, none⟩ = some (.int .i64 t.k) ∧ V.cell? ⟨w1.heap.size, 1, none⟩ = some (.int .i64 t.n) ∧ V.cell? ⟨w1.heap.size, 2, none⟩ = some (.slice a2 t.len c2)) := fun V hV => (PB_7.keep hV).three'
        have HKD8 : Hid (∀ V : World, Below w7.heap.size w7 V → KdS w.heap.size V t (.slice a2 t.len c2)) := fun V hV => KD_7.keep hV
        have HG8 : Hid (∀ V : World, Below w7.heap.size w7 V → V.cell? ⟨0, 0, none⟩ = some (erV ea)) := fun V hV => cell_below (bStep hbw7 hV) hg
        have lyD8 := LY_7.keep hcur8
        have tD8 := T_7.keep hcur8
        go_wp2_with fail
        go_region_held3 (fun V => V.cell? ⟨w1.heap.size, 0, none⟩ = some (.int .i64 t.k) ∧ V.cell? ⟨w1.heap.size, 1, none⟩ = some (.int .i64 t.n) ∧ V.cell? ⟨w1.heap.size, 2, none⟩ = some (.slice a2 t.len c2))
          (first | exact HX8.out _ hcur8 | exact HX8.out _ hcA8 | exact HX8.out _ hcB8)
          (first
            | (go_at_call 25; with_reducible refine (lwMoved_any _ _ K f _ lyD8 tD8 hK2).mono ?_; rintro e wA8 ⟨oA8, rfl, LA8, hbA8⟩; have hcA8 : Below w7.heap.size w7 wA8 := bStep hcur8 hbA8)
            | (go_at_call 15; refine (implFlow_no ea HF2.out HM.out (HKD8.out _ hcA8) LA8 (HG8.out _ hcA8)).mono ?_; rintro e wB8 ⟨oB8, rfl, YB8, hbB8⟩; have hcB8 : Below w7.heap.size w7 wB8 := bStep hcA8 hbB8))
        have Yh_8 := (show Hid (Rs wB8 oB8 []) from YB8)
        have KD_8 := KD_7.keep hcB8
        have LY_8 := LY_7.keep hcB8
        have PB_8 := PB_7.keep hcB8
        have T_8 := T_7.keep hcB8
        have X_8 := X_7.keep hcB8
        have hbw8 := bStep hbw7 hcB8
        clear KD_7 LY_7 PB_7 T_7 X_7 hbw7 hcB8
        have Y_8 : Rs wB8 oB8 [] := Yh_8.out
        have hcur9 : Below wB8.heap.size wB8 wB8.drew := (Below.refl _ _).drew
        have HX9 : Hid (∀ V : World, Below wB8.heap.size wB8 V → V.cell? ⟨w1.heap.size, 0, none⟩ = some (.int .i64 t.k) ∧ V.cell? ⟨w1.heap.size, 1, none⟩ = some (.int .i64 t.n) ∧ V.cell? ⟨w1.heap.size, 2, none⟩ = some (.slice a2 t.len c2)) := fun V hV => (PB_8.keep hV).three'
        have HKD9 : Hid (∀ V : World, Below wB8.heap.size wB8 V → KdS w.heap.size V t (.slice a2 t.len c2)) := fun V hV => KD_8.keep hV
        have HG9 : Hid (∀ V : World, Below wB8.heap.size wB8 V → V.cell? ⟨0, 0, none⟩ = some (erV ea)) := fun V hV => cell_below (bStep hbw8 hV) hg
        have lyD9 := LY_8.keep hcur9
        have tD9 := T_8.keep hcur9
        go_wp2_with fail
        go_region_held3 (fun V => V.cell? ⟨w1.heap.size, 0, none⟩ = some (.int .i64 t.k) ∧ V.cell? ⟨w1.heap.size, 1, none⟩ = some (.int .i64 t.n) ∧ V.cell? ⟨w1.heap.size, 2, none⟩ = some (.slice a2 t.len c2))
          (first | exact HX9.out _ hcur9 | exact HX9.out _ hcA9 | exact HX9.out _ hcB9)
          (first
            | (go_at_call 25; with_reducible refine (lwMoved_any _ _ K f _ lyD9 tD9 hK2).mono ?_; rintro e wA9 ⟨oA9, rfl, LA9, hbA9⟩; have hcA9 : Below wB8.heap.size wB8 wA9 := bStep hcur9 hbA9)
            | (go_at_call 14; refine (specFlow_no HF2.out (HKD9.out _ hcA9) LA9).mono ?_; rintro e wB9 ⟨oB9, rfl, ZB9, hbB9⟩; have hcB9 : Below wB8.heap.size wB8 wB9 := bStep hcA9 hbB9))
        have Zh_9 := (show Hid (Rs wB9 oB9 []) from ZB9)
        have KD_9 := KD_8.keep hcB9
        have LY_9 := LY_8.keep hcB9
        have PB_9 := PB_8.keep hcB9
        have T_9 := T_8.keep hcB9
        have X_9 := X_8.keep hcB9
        have Y_9 := Y_8.keep hcB9
        have hbw9 := bStep hbw8 hcB9
        clear KD_8 LY_8 PB_8 T_8 X_8 Y_8 hbw8 hcB9
        have Z_9 : Rs wB9 oB9 [] := Zh_9.out
        obtain ⟨y00_9, y01_9, y02_9⟩ := PB_9.three'
        go_wp2_with fail
        go_ret
        exact ⟨rfl, hbw9⟩
      · have HF2 := (show Hid (flowR t (K.map fun l => bmoveL l f) = some r2) from hf2)
        clear hf2
        have HI : Hid (∀ x y : Int, okB x y = true → askedB f x y = true → itemsL r x y = itemsL r2 x y) := flow_moved HW.out hk HF.out HF2.out
        have hcur8 : Below w7.heap.size w7 w7.drew := (Below.refl _ _).drew
        have HX8 : Hid (∀ V : World, Below w7.heap.size w7 V → V.cell? ⟨w1.heap.size, 0, none⟩ = some (.int .i64 t.k) ∧ V.cell? ⟨w1.heap.size, 1, none⟩ = some (.int .i64 t.n) ∧ V.cell? ⟨w1.heap.size, 2, none⟩ = some (.slice a2 t.len c2)) := fun V hV => (PB_7.keep hV).three'
        have HKD8 : Hid (∀ V : World, Below w7.heap.size w7 V → KdS w.heap.size V t (.slice a2 t.len c2)) := fun V hV => KD_7.keep hV
        have HG8 : Hid (∀ V : World, Below w7.heap.size w7 V → V.cell? ⟨0, 0, none⟩ = some (erV ea)) := fun V hV => cell_below (bStep hbw7 hV) hg
        have lyD8 := LY_7.keep hcur8
        have tD8 := T_7.keep hcur8
        go_wp2_with fail
        go_region_held3 (fun V => V.cell? ⟨w1.heap.size, 0, none⟩ = some (.int .i64 t.k) ∧ V.cell? ⟨w1.heap.size, 1, none⟩ = some (.int .i64 t.n) ∧ V.cell? ⟨w1.heap.size, 2, none⟩ = some (.slice a2 t.len c2))
          (first | exact HX8.out _ hcur8 | exact HX8.out _ hcA8 | exact HX8.out _ hcB8)
          (first
            | (go_at_call 25; with_reducible refine (lwMoved_any _ _ K f _ lyD8 tD8 hK2).mono ?_; rintro e wA8 ⟨oA8, rfl, LA8, hbA8⟩; have hcA8 : Below w7.heap.size w7 wA8 := bStep hcur8 hbA8)
            | (go_at_call 15; refine (implFlow_yes ea HF2.out HM.out (HKD8.out _ hcA8) LA8 (HG8.out _ hcA8)).mono ?_; rintro e wB8 ⟨oB8, rfl, YB8, hbB8⟩; have hcB8 : Below w7.heap.size w7 wB8 := bStep hcA8 hbB8))
        have Yh_8 := (show Hid (Rs wB8 oB8 r2) from YB8)
        have KD_8 := KD_7.keep hcB8
        have LY_8 := LY_7.keep hcB8
        have PB_8 := PB_7.keep hcB8
        have T_8 := T_7.keep hcB8
        have X_8 := X_7.keep hcB8
        have hbw8 := bStep hbw7 hcB8
        clear KD_7 LY_7 PB_7 T_7 X_7 hbw7 hcB8
        have Y_8 : Rs wB8 oB8 r2 := Yh_8.out
        have hcur9 : Below wB8.heap.size wB8 wB8.drew := (Below.refl _ _).drew
        have HX9 : Hid (∀ V : World, Below wB8.heap.size wB8 V → V.cell? ⟨w1.heap.size, 0, none⟩ = some (.int .i64 t.k) ∧ V.cell? ⟨w1.heap.size, 1, none⟩ = some (.int .i64 t.n) ∧ V.cell? ⟨w1.heap.size, 2, none⟩ = some (.slice a2 t.len c2)) := fun V hV => (PB_8.keep hV).three'
        have HKD9 : Hid (∀ V : World, Below wB8.heap.size wB8 V → KdS w.heap.size V t (.slice a2 t.len c2)) := fun V hV => KD_8.keep hV
        have HG9 : Hid (∀ V : World, Below wB8.heap.size wB8 V → V.cell? ⟨0, 0, none⟩ = some (erV ea)) := fun V hV => cell_below (bStep hbw8 hV) hg
        have lyD9 := LY_8.keep hcur9
        have tD9 := T_8.keep hcur9
        go_wp2_with fail
        go_region_held3 (fun V => V.cell? ⟨w1.heap.size, 0, none⟩ = some (.int .i64 t.k) ∧ V.cell? ⟨w1.heap.size, 1, none⟩ = some (.int .i64 t.n) ∧ V.cell? ⟨w1.heap.size, 2, none⟩ = some (.slice a2 t.len c2))
          (first | exact HX9.out _ hcur9 | exact HX9.out _ hcA9 | exact HX9.out _ hcB9)
          (first
            | (go_at_call 25; with_reducible refine (lwMoved_any _ _ K f _ lyD9 tD9 hK2).mono ?_; rintro e wA9 ⟨oA9, rfl, LA9, hbA9⟩; have hcA9 : Below wB8.heap.size wB8 wA9 := bStep hcur9 hbA9)
            | (go_at_call 14; refine (specFlow_yes HF2.out (HKD9.out _ hcA9) LA9).mono ?_; rintro e wB9 ⟨oB9, rfl, ZB9, hbB9⟩; have hcB9 : Below wB8.heap.size wB8 wB9 := bStep hcA9 hbB9))
        have Zh_9 := (show Hid (Rs wB9 oB9 r2) from ZB9)
        have KD_9 := KD_8.keep hcB9
        have LY_9 := LY_8.keep hcB9
        have PB_9 := PB_8.keep hcB9
        have T_9 := T_8.keep hcB9
        have X_9 := X_8.keep hcB9
        have Y_9 := Y_8.keep hcB9
        have hbw9 := bStep hbw8 hcB9
        clear KD_8 LY_8 PB_8 T_8 X_8 Y_8 hbw8 hcB9
        have Z_9 : Rs wB9 oB9 r2 := Zh_9.out
        obtain ⟨y00_9, y01_9, y02_9⟩ := PB_9.three'
        go_wp2_with fail
        clear y00_9 y01_9 y02_9
        refine (lwSame_any _ _ _ r r2 f _ X_9 Y_9 T_9 HI.out).mono ?_
        rintro e w10 ⟨rfl, hb10⟩
        have KD_10 := KD_9.keep hb10
        have LY_10 := LY_9.keep hb10
        have PB_10 := PB_9.keep hb10
        have T_10 := T_9.keep hb10
        have X_10 := X_9.keep hb10
        have Y_10 := Y_9.keep hb10
        have Z_10 := Z_9.keep hb10
        have hbw10 := bStep hbw9 hb10
        clear KD_9 LY_9 PB_9 T_9 X_9 Y_9 Z_9 hbw9 hb10
        obtain ⟨y00_10, y01_10, y02_10⟩ := PB_10.three'
        go_wp2_with fail
        go_ret
        exact ⟨rfl, hbw10⟩
end FnPlanMove
end Go.Proofs.YtldejkhemkjcgaaGreatDoor
