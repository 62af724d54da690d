import Derived.Test.YtldejkhemkjcgaaGreatDoorGmr
import Derived.Test.YtldejkhemkjcgaaGreatDoorDp1
import Derived.Test.YtldejkhemkjcgaaGreatDoorGd3
import Derived.Test.YtldejkhemkjcgaaGreatDoorPm3
import Derived.Test.YtldejkhemkjcgaaGreatDoorGlk
import Derived.Test.YtldejkhemkjcgaaGreatDoorGs7
namespace Go.Proofs.YtldejkhemkjcgaaGreatDoor
open Go.RowKit
namespace FnPlanSame
set_option maxRecDepth 100000 in
set_option maxHeartbeats 8000000 in
theorem walk (ea : Addr) (x0 : Option Addr) (len0 cap0 : Nat) (w : World) (h0 : Src w (.slice x0 len0 cap0) len0) (hg : w.cell? ⟨0, 0, none⟩ = some (erV ea)) :
    Calls Tryz.prog 10 #[.slice x0 len0 cap0] w fun e w' => e = .returned (.bool true) ∧ Below w.heap.size w w' := by
  by_cases g0 : (1048576 : Int) < (len0 : Int)
  · go_enter Tryz.func10, Tryz.ntmps10
    go_wp2_with fail
    go_ret
    exact ⟨rfl, Below.refl _ _⟩
  go_enter Tryz.func10, Tryz.ntmps10
  go_wp2_with fail
  refine (drawPlanFlow_any _ _ _ _ h0).mono ?_
  rintro e w1 ⟨t, a2, i2, c2, iv, K, rfl, hsm, KD_1, LY_1, hfew, hKl, hb1⟩
  have hbw1 := hb1
  clear h0 hb1
  obtain rfl : i2 = t.len := by obtain ⟨q1, q2, e⟩ := KdS.sl KD_1; cases e; rfl
  obtain ⟨ia, ic, eiv⟩ := LyR.sl LY_1
  subst eiv
  have HM := (show Hid (t.sm) from hsm)
  have HW := (show Hid (∀ l ∈ K, fewR l) from hfew)
  clear hsm hfew
  have hbx2 : Below w1.heap.size w1 (w1.alloc (.cells #[.int .i64 t.k, .int .i64 t.n, .slice a2 t.len c2] 25)) := bAlloc (Below.refl _ _) _
  have PB_2 : Bk (w1.alloc (.cells #[.int .i64 t.k, .int .i64 t.n, .slice a2 t.len c2] 25)) w1.heap.size #[.int .i64 t.k, .int .i64 t.n, .slice a2 t.len c2] 25 := Bk.new _ _ rfl
  have KD_2 := KD_1.keep hbx2
  have LY_2 := LY_1.keep hbx2
  have hbw2 := bStep hbw1 hbx2
  clear KD_1 LY_1 hbw1 hbx2
  rcases hf : flowR t K with _ | r
  · have HF := (show Hid (flowR t K = none) from hf)
    clear hf
    obtain ⟨y00_2, y01_2, y02_2⟩ := PB_2.three'
    go_wp2_with fail
    clear y00_2 y01_2 y02_2
    refine (specFlow_no HF.out KD_2 LY_2).mono ?_
    rintro e w3 ⟨ow, rfl, W_3, hb3⟩
    have KD_3 := KD_2.keep hb3
    have LY_3 := LY_2.keep hb3
    have PB_3 := PB_2.keep hb3
    have hbw3 := bStep hbw2 hb3
    clear KD_2 LY_2 PB_2 hbw2 hb3
    obtain ⟨y00_3, y01_3, y02_3⟩ := PB_3.three'
    go_wp2_with fail
    clear y00_3 y01_3 y02_3
    refine (implFlow_no ea HF.out HM.out KD_3 LY_3 (cell_below hbw3 hg)).mono ?_
    rintro e w4 ⟨ox, rfl, X_4, hb4⟩
    have KD_4 := KD_3.keep hb4
    have LY_4 := LY_3.keep hb4
    have PB_4 := PB_3.keep hb4
    have W_4 := W_3.keep hb4
    have hbw4 := bStep hbw3 hb4
    clear KD_3 LY_3 PB_3 W_3 hbw3 hb4
    obtain ⟨ax, cx, ex, -⟩ := Rs.open X_4
    subst ex
    obtain ⟨y00_4, y01_4, y02_4⟩ := PB_4.three'
    go_wp2_with fail
    clear y00_4 y01_4 y02_4
    refine (lwRows_eq (selfR _) X_4 W_4).mono ?_
    rintro e w5 ⟨rfl, hb5⟩
    have KD_5 := KD_4.keep hb5
    have LY_5 := LY_4.keep hb5
    have PB_5 := PB_4.keep hb5
    have W_5 := W_4.keep hb5
    have X_5 := X_4.keep hb5
    have hbw5 := bStep hbw4 hb5
    clear KD_4 LY_4 PB_4 W_4 X_4 hbw4 hb5
    obtain ⟨y00_5, y01_5, y02_5⟩ := PB_5.three'
    go_wp2_with fail
    clear y00_5 y01_5 y02_5
    refine (lwRows_eq (selfR _) X_5 W_5).mono ?_
    rintro e w6 ⟨rfl, hb6⟩
    have KD_6 := KD_5.keep hb6
    have LY_6 := LY_5.keep hb6
    have PB_6 := PB_5.keep hb6
    have W_6 := W_5.keep hb6
    have X_6 := X_5.keep hb6
    have hbw6 := bStep hbw5 hb6
    clear KD_5 LY_5 PB_5 W_5 X_5 hbw5 hb6
    obtain ⟨y00_6, y01_6, y02_6⟩ := PB_6.three'
    go_wp2_with fail
    go_ret
    exact ⟨rfl, hbw6⟩
  · have HF := (show Hid (flowR t K = some r) from hf)
    have hrl := flowR_len hf
    clear hf
    obtain ⟨y00_2, y01_2, y02_2⟩ := PB_2.three'
    go_wp2_with fail
    clear y00_2 y01_2 y02_2
    refine (specFlow_yes HF.out KD_2 LY_2).mono ?_
    rintro e w3 ⟨ow, rfl, W_3, hb3⟩
    have KD_3 := KD_2.keep hb3
    have LY_3 := LY_2.keep hb3
    have PB_3 := PB_2.keep hb3
    have hbw3 := bStep hbw2 hb3
    clear KD_2 LY_2 PB_2 hbw2 hb3
    obtain ⟨y00_3, y01_3, y02_3⟩ := PB_3.three'
    go_wp2_with fail
    clear y00_3 y01_3 y02_3
    refine (implFlow_yes ea HF.out HM.out KD_3 LY_3 (cell_below hbw3 hg)).mono ?_
    rintro e w4 ⟨ox, rfl, X_4, hb4⟩
    have KD_4 := KD_3.keep hb4
    have LY_4 := LY_3.keep hb4
    have PB_4 := PB_3.keep hb4
    have W_4 := W_3.keep hb4
    have hbw4 := bStep hbw3 hb4
    clear KD_3 LY_3 PB_3 W_3 hbw3 hb4
    obtain ⟨y00_4, y01_4, y02_4⟩ := PB_4.three'
    go_wp2_with fail
    clear y00_4 y01_4 y02_4
    refine (lwRows_eq (selfR _) X_4 W_4).mono ?_
    rintro e w5 ⟨rfl, hb5⟩
    have KD_5 := KD_4.keep hb5
    have LY_5 := LY_4.keep hb5
    have PB_5 := PB_4.keep hb5
    have X_5 := X_4.keep hb5
    have hbw5 := bStep hbw4 hb5
    clear KD_4 LY_4 PB_4 W_4 X_4 hbw4 hb5
    have HC : Hid (∀ V : World, Below w5.heap.size w5 V → (V.cell? ⟨w1.heap.size, 0, none⟩ = some (.int .i64 t.k) ∧ V.cell? ⟨w1.heap.size, 1, none⟩ = some (.int .i64 t.n) ∧ V.cell? ⟨w1.heap.size, 2, none⟩ = some (.slice a2 t.len c2)) ∧ KdS w.heap.size V t (.slice a2 t.len c2) ∧ LyR V (.slice ia K.length ic) K ∧ V.cell? ⟨0, 0, none⟩ = some (erV ea) ∧ Rs V ox r) := fun V hV => ⟨(PB_5.keep hV).three', KD_5.keep hV, LY_5.keep hV, cell_below (bStep hbw5 hV) hg, X_5.keep hV⟩
    have bT : Bk ((w5.alloc (.cells #[.int .i64 7, .int .i64 7] 41)).alloc (.cells #[] 29)) w5.heap.size #[.int .i64 7, .int .i64 7] 41 := (Bk.new _ _ rfl).alloc _
    have oV : OwnVR ((w5.alloc (.cells #[.int .i64 7, .int .i64 7] 41)).alloc (.cells #[] 29)) (w5.heap.size + 1) (.slice (some ⟨w5.heap.size + 1, 0, none⟩) 0 0) [] := ownVR_empty _ (by simp)
    have hb0 : Below w5.heap.size w5 ((w5.alloc (.cells #[.int .i64 7, .int .i64 7] 41)).alloc (.cells #[] 29)) := bAlloc (bAlloc (Below.refl _ _) _) _
    have hKl2 : K.length ≤ 2 := by omega
    clear PB_5 KD_5 LY_5 X_5
    go_wp2_with fail
    go_loopw [10, 11] (fun o i wr => ∃ (k : Nat) (vs : List Value), k ≤ K.length ∧ i = .int .i64 k ∧ OwnVR wr (w5.heap.size + 1) o vs ∧ EoR wr (w5.heap.size + 1) vs ((K.take k).map lastL) ∧ Bk wr w5.heap.size #[.int .i64 7, .int .i64 7] 41 ∧ Below w5.heap.size w5 wr) (fun _ i _ => K.length - (intOf i).toNat)
    case atStart => exact ⟨0, [], by omega, rfl, oV, EoR.nil _ _, bT, hb0⟩
    case round =>
      clear hb0 oV bT
      obtain ⟨k, vs, hkl, rfl, hown, heo, bT, hb⟩ := hrel
      have HO := (show Hid (OwnVR wr (w5.heap.size + 1) u10 vs) from hown)
      have HE := (show Hid (EoR wr (w5.heap.size + 1) vs ((K.take k).map lastL)) from heo)
      have HV : Hid (vs.length = k) := by show _ = _; rw [heo.1, List.length_map, List.length_take]; omega
      have hsz := hb.size
      have hbt := bT.lt
      clear hown heo
      by_cases hlt : k < K.length
      · obtain ⟨l, hl'⟩ : ∃ l, K[k]? = some l := ⟨_, List.getElem?_eq_getElem hlt⟩
        obtain ⟨a', cap', e', -, -, -, hcell⟩ := (HC.out _ hb).2.2.1.open
        cases e'
        obtain ⟨g, off, ad, cp, rfl, hgl, c0, hR⟩ := hcell k l hl'
        have ik : ((k : Int) < (K.length : Int)) := by omega
        have HL := (show Hid (K[k]? = some l) from hl')
        have hbR : Below wr.heap.size wr (wr.alloc (.cells #[] 56)) := bAlloc (Below.refl _ _) _
        have hcur : Below wr.heap.size wr (wr.alloc (.cells #[] 56)).drew := hbR.drew
        have oR : OwnR (wr.alloc (.cells #[] 56)) wr.heap.size (.slice (some ⟨wr.heap.size, 0, none⟩) 0 0) [] := ownR_empty wr rfl
        have HOR := (show Hid _ from oR.drew)
        obtain ⟨t0, t1, _, _⟩ := bT.two
        have HX : Hid (∀ V, Below wr.heap.size wr V → V.cell? ⟨g, off + k, none⟩ = some (.slice ad l.length cp) ∧ V.cell? ⟨w5.heap.size, 0, none⟩ = some (.int .i64 7) ∧ V.cell? ⟨w5.heap.size, 1, none⟩ = some (.int .i64 7)) := fun V hV => ⟨cell_below hV c0, cell_below hV t0, cell_below hV t1⟩
        have rD := hR.keep hcur
        clear hcell hl' c0 t0 t1 hR oR
        go_wp2_with fail
        go_region_held3 (fun V => V.cell? ⟨g, off + k, none⟩ = some (.slice ad l.length cp) ∧ V.cell? ⟨w5.heap.size, 0, none⟩ = some (.int .i64 7) ∧ V.cell? ⟨w5.heap.size, 1, none⟩ = some (.int .i64 7))
          (first | exact HX.out _ hcur | exact HX.out _ hc7)
          (first
            | (go_at_call 21; with_reducible refine (implAt_any _ l 7 7 _ rD).mono ?_; rintro e w7 ⟨o7, rfl, own7, hb7⟩; have hc7 : Below wr.heap.size wr w7 := bStep hcur hb7))
        have hlm := items_len l 7 7
        have IS7 : Is w7 o7 (itemsL l 7 7) := OwnI.is own7 (by omega)
        have HOR7 := (show Hid (OwnR w7 wr.heap.size (.slice (some ⟨wr.heap.size, 0, none⟩) 0 0) []) from own_keep HOR.out hb7)
        have hD : wr.heap.size ≤ (wr.alloc (.cells #[] 56)).drew.heap.size := hcur.size
        have HOI7 := (show Hid (OwnI w7 wr.heap.size o7 (itemsL l 7 7)) from own_less own7 hD)
        have HLA : Hid (lastL l = (itemsL l 7 7).map upR) := rfl
        obtain ⟨a8, cap8, rfl, hc8, hm8, hn8, hcells8⟩ := Is.open IS7
        unfold maxLen at hm8
        have HCI := (show Hid _ from hcells8)
        clear hcells8 IS7 own7 hb7 rD HX hcur HOR hbR hD
        generalize itemsL l 7 7 = m at *
        go_wp2_with fail
        obtain ⟨wo, hwo⟩ : ∃ wo : World, wo = wr := ⟨_, rfl⟩
        subst hwo
        go_loopw [12, 14] (fun o i wr => ∃ j : Nat, j ≤ m.length ∧ i = .int .i64 j ∧ OwnR wr wo.heap.size o ((m.take j).map upR) ∧ OwnI wr wo.heap.size (.slice a8 m.length cap8) m ∧ Below wo.heap.size wo wr) (fun _ i _ => m.length - (intOf i).toNat)
        case atStart => exact ⟨0, by omega, rfl, HOR7.out, HOI7.out, hc7⟩
        case round =>
          obtain ⟨j, hjl, rfl, hown, howi, hbi⟩ := hrel
          have HOR := (show Hid (OwnR wr wo.heap.size u12 ((m.take j).map upR)) from hown)
          have HOI := (show Hid (OwnI wr wo.heap.size (.slice a8 m.length cap8) m) from howi)
          have hs1 := hbi.size
          clear hown howi HOR7 HOI7
          by_cases hlt3 : j < m.length
          · obtain ⟨a', cap', e', -, -, -, hcl⟩ := Is.open (OwnI.is HOI.out (by omega))
            cases e'
            obtain ⟨g8, off8, K8, V8, D8, rfl, hg8, hr8, c0, c1, c2⟩ := hcl j hlt3
            have HZ := (show Hid _ from up_snoc hr8)
            have HR8 := (show Hid _ from hr8)
            have ij : ((j : Int) < (m.length : Int)) := by omega
            have O1 : OwnR wr wo.heap.size u12 ((m.take j).map upR) := HOR.out
            have hL : ((m.take j).map upR).length ≤ 1000000 := by simp; omega
            have HX : Hid (∀ V, Below wr.heap.size wr V → V.cell? ⟨g8, off8 + j * 3, none⟩ = some (.int .i64 K8) ∧ V.cell? ⟨g8, off8 + j * 3 + 1, none⟩ = some (.int .i64 V8) ∧ V.cell? ⟨g8, off8 + j * 3 + 2, none⟩ = some (.int .i64 D8)) := fun V hV => ⟨cell_below hV c0, cell_below hV c1, cell_below hV c2⟩
            have HG : Hid (∀ W8 w9 : World, Below wr.heap.size wr W8 → W8.grownBy w9 u12.ownBlock → Below wo.heap.size wo w9 ∧ OwnI w9 wo.heap.size (.slice (some ⟨g8, off8, none⟩) m.length cap8) m ∧ w9.cell? ⟨g8, off8 + j * 3, none⟩ = some (.int .i64 K8) ∧ w9.cell? ⟨g8, off8 + j * 3 + 1, none⟩ = some (.int .i64 V8) ∧ w9.cell? ⟨g8, off8 + j * 3 + 2, none⟩ = some (.int .i64 D8)) := fun W8 w9 h8 hgw => by
              have oi9 := ownI_appR (own_keep HOI.out h8) (own_keep HOR.out h8) hgw
              exact ⟨Below.grew (bStep hbi h8) hgw (by have := h8.size; omega) (ownK_base HOR.out), oi9, is_at (OwnI.is oi9 (by omega)) HR8.out⟩
            clear c0 c1 c2 hr8 hcl HOR
            generalize (m.take j).map upR = L at *
            go_wp2_with fail
            go_region_held3 (fun V => V.cell? ⟨g8, off8 + j * 3, none⟩ = some (.int .i64 K8) ∧ V.cell? ⟨g8, off8 + j * 3 + 1, none⟩ = some (.int .i64 V8) ∧ V.cell? ⟨g8, off8 + j * 3 + 2, none⟩ = some (.int .i64 D8))
              (first | exact HX.out _ (Below.refl _ _).drew | exact HX.out _ (bAlloc (Below.refl _ _) _).drew | exact HX.out _ (bAlloc (Below.refl _ _).drew _) | exact HX9)
              (first
                | (refine stepR _ (by rfl) _ _ (by rfl) wo.heap.size _ L (by rfl) ((O1.alloc _).drew) _ K8 V8 0 0 D8 (by rfl) ((Bk.new _ _ rfl).drew) (by omega) (by simp; omega) ?_; intro g9 cap9 w9 own9 hgrow hlg; obtain ⟨hbi9, oi9, HX9⟩ := HG.out _ w9 (bAlloc (Below.refl _ _) _).drew hgrow))
            go_wp2_with fail
            go_roundw
            case rel =>
              refine ⟨j + 1, by omega, by go_num, ?_, oi9, hbi9⟩
              rw [HZ.out]; exact own9
            case measure => simp [intOf]; omega
          · obtain rfl : j = m.length := by omega
            have ij : ¬ ((m.length : Int) < (m.length : Int)) := by omega
            have O12 : OwnR wr wo.heap.size u12 (lastL l) := by have := HOR.out; rw [List.take_length] at this; rw [HLA.out]; exact this
            have hll := last_len l
            obtain ⟨a7, c7, e7, -⟩ := Rs.open (OwnR.rs O12 (by omega))
            subst e7
            have bn : Bk (wr.alloc (.cells #[.slice a7 (lastL l).length c7] 29)) wr.heap.size #[.slice a7 (lastL l).length c7] 29 := Bk.new _ _ rfl
            have hbn : Below wr.heap.size wr (wr.alloc (.cells #[.slice a7 (lastL l).length c7] 29)) := bAlloc (Below.refl _ _) _
            have hbn2 := bStep hbi hbn
            have HO8 := (show Hid (OwnVR (wr.alloc (.cells #[.slice a7 (lastL l).length c7] 29)) (w5.heap.size + 1) u10 vs) from own_keep HO.out hbn2)
            have HE8 := (show Hid (EoR (wr.alloc (.cells #[.slice a7 (lastL l).length c7] 29)) (w5.heap.size + 1) (vs ++ [.slice a7 (lastL l).length c7]) ((K.take (k + 1)).map lastL)) from by
              rw [take_snoc HL.out, List.map_append]
              exact (HE.out.keep hbn2).snoc (own_keep (own_less O12 (by omega)) hbn) (by omega))
            have HB8 := (show Hid _ from bStep hb hbn2)
            have HT8 := (show Hid _ from bT.keep hbn2)
            have hz8 : (wr.alloc (.cells #[.slice a7 (lastL l).length c7] 29)).heap.size = wr.heap.size + 1 := by simp
            clear O12 HOR HOI hbn hbn2 HLA HCI
            go_wp2_with (at_builtin; go_must (refine appVR _ rfl _ _ rfl (w5.heap.size + 1) _ vs rfl HO8.out _ _ _ _ rfl bn (by have := HV.out; omega) (by rw [hz8]; omega) ?_); intro g9 cap9 w9 own9 hg9 hlg)
            have hbw9 : Below w5.heap.size w5 w9 := Below.grew HB8.out hg9 (by rw [hz8]; omega) (fun q e => by have := ownK_base HO8.out q e; omega)
            have bT9 : Bk w9 w5.heap.size #[.int .i64 7, .int .i64 7] 41 := Bk.grew HT8.out hg9 (fun q e => by have := ownK_base HO8.out q e; omega)
            refine ⟨⟨k + 1, _, by omega, by go_num, own9, HE8.out.grew HO8.out hg9, bT9, hbw9⟩, ?_⟩
            simp [intOf]; omega
      · obtain rfl : k = K.length := by omega
        rw [List.take_length] at HE
        have ik : ¬ ((K.length : Int) < (K.length : Int)) := by omega
        have hvl := HV.out
        have LK : Hid (LyR wr u10 (K.map lastL)) := HE.out.ly HO.out (by omega)
        obtain ⟨⟨p0, p1, p2⟩, hkd, -, hge, -⟩ := HC.out _ hb
        clear HO HE
        rcases hf2 : flowR t (K.map lastL) with _ | r2
        · have HF2 := (show Hid _ from hf2)
          clear hf2
          go_wp2_with fail
          refine (implFlow_no ea HF2.out HM.out hkd LK.out hge).mono ?_
          rintro e wy ⟨oy, rfl, ry, hby⟩
          obtain ⟨ay, cy, ey, -⟩ := Rs.open ry
          subst ey
          have hbyy := bStep hbw5 (bStep hb hby)
          clear p0 p1 p2
          go_wp2_with fail
          refine wp_loop_rounds 1 ?_
          rw [rounds_succ]
          go_wp2_with fail
          go_quiet (fail)
          have hbq : Below w.heap.size w (wy.drewN nq) := bDrewN hbyy _
          go_wp2_with fail
          go_ret
          exact ⟨rfl, hbq⟩
        · have HF2 := (show Hid _ from hf2)
          clear hf2
          obtain ⟨hz2, hi2⟩ := flow_last HF.out HF2.out
          have HZ2 := (show Hid (allZ r2) from hz2)
          have HI2 := (show Hid (itemsL r 7 7 = itemsL r2 0 0) from hi2.symm)
          clear hz2 hi2
          go_wp2_with fail
          refine (implFlow_yes ea HF2.out HM.out hkd LK.out hge).mono ?_
          rintro e wy ⟨oy, rfl, ry, hby⟩
          have HRY := (show Hid (Rs wy oy r2) from ry)
          obtain ⟨ay, cy, rfl, hcy, hmy, hny, hcly⟩ := Rs.open ry
          unfold maxLen at hmy
          have HCY := (show Hid _ from hcly)
          have hby2 := bStep hb hby
          have bTy := bT.keep hby
          clear p0 p1 p2 hcly ry hkd hge LK
          go_wp2_with fail
          go_loopw [17] (fun i wr => ∃ j : Nat, j ≤ r2.length ∧ i = .int .i64 j ∧ Below wy.heap.size wy wr) (fun i _ => r2.length - (intOf i).toNat)
          case atStart => exact ⟨0, by omega, rfl, Below.refl _ _⟩
          case round =>
            obtain ⟨j, hjl, rfl, hbj⟩ := hrel
            by_cases hlt4 : j < r2.length
            · obtain ⟨g, off, K8, V8, A8, B8, D8, rfl, hg, hr, c0, c1, c2, c3, c4⟩ := HCY.out j hlt4
              have hz := HZ2.out _ (List.mem_of_getElem? hr)
              simp only [Prod.mk.injEq] at hz
              obtain ⟨rfl, rfl⟩ := hz
              have ij : ((j : Int) < (r2.length : Int)) := by omega
              have d2 := cell_below hbj c2
              have d3 := cell_below hbj c3
              clear c0 c1 c2 c3 c4 hr
              go_wp2_with fail
              go_roundw
              case rel => exact ⟨j + 1, by omega, by go_num, hbj⟩
              case measure => simp [intOf]; omega
            · obtain rfl : j = r2.length := by omega
              have ij : ¬ ((r2.length : Int) < (r2.length : Int)) := by omega
              obtain ⟨t0, t1, _, _⟩ := bTy.two
              have hbD := hbj.drew
              have HX : Hid (∀ V, Below wy.heap.size wy V → V.cell? ⟨w5.heap.size, 0, none⟩ = some (.int .i64 7) ∧ V.cell? ⟨w5.heap.size, 1, none⟩ = some (.int .i64 7)) := fun V hV => ⟨cell_below hV t0, cell_below hV t1⟩
              have HR1 : Hid (∀ V, Below wy.heap.size wy V → Rs V (.slice ay r2.length cy) r2) := fun V hV => HRY.out.keep hV
              have HR2 : Hid (∀ V, Below wy.heap.size wy V → Rs V ox r) := fun V hV => (HC.out V (bStep hby2 hV)).2.2.2.2
              have HBW : Hid (∀ V, Below wy.heap.size wy V → Below w.heap.size w V) := fun V hV => bStep hbw5 (bStep hby2 hV)
              clear t0 t1 bTy bT HCY HRY
              go_wp2_with fail
              go_region_held3 (fun V => V.cell? ⟨w5.heap.size, 0, none⟩ = some (.int .i64 7) ∧ V.cell? ⟨w5.heap.size, 1, none⟩ = some (.int .i64 7))
                (first | exact HX.out _ hbD | exact HX.out _ hbna | exact HX.out _ hbnb | exact HX.out _ hbnc)
                (first
                  | (go_at_call 21; with_reducible refine (implAt_k rfl (HR1.out _ hbD)).mono ?_; rintro e wa ⟨oa, rfl, isa, hba⟩; have hbna : Below wy.heap.size wy wa := bStep hbD hba)
                  | (go_at_call 21; with_reducible refine (implAt_k HI2.out (HR2.out _ hbna)).mono ?_; rintro e wb ⟨ob, rfl, isb, hbb⟩; have hbnb : Below wy.heap.size wy wb := bStep hbna hbb; have isa2 := SlK.keep isa hbb)
                  | (go_at_call 20; with_reducible refine (lwItems_eq (selfI _) isa2 isb).mono ?_; rintro e wc ⟨rfl, hbc⟩; have hbnc : Below wy.heap.size wy wc := bStep hbnb hbc))
              all_goals
                go_wp2_with fail
                go_ret
                exact ⟨rfl, HBW.out _ hbnc⟩
    
end FnPlanSame
end Go.Proofs.YtldejkhemkjcgaaGreatDoor
