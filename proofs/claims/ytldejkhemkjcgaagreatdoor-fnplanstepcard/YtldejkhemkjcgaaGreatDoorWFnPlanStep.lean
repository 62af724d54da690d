import Derived.Test.YtldejkhemkjcgaaGreatDoorGmr
import Derived.Test.YtldejkhemkjcgaaGreatDoorDp1
import Derived.Test.YtldejkhemkjcgaaGreatDoorGd3
import Derived.Test.YtldejkhemkjcgaaGreatDoorPs1
namespace Go.Proofs.YtldejkhemkjcgaaGreatDoor
open Go.RowKit
namespace FnPlanStep
set_option maxRecDepth 100000 in
set_option maxHeartbeats 8000000 in
theorem walk (ea : Addr) (x0 : Option Addr) (len0 cap0 : Nat) (w : World) (h0 : Src w (.slice x0 len0 cap0) len0) (hg : w.cell? ⟨0, 0, none⟩ = some (erV ea)) :
    Calls Tryz.prog 9 #[.slice x0 len0 cap0] w fun e w' => e = .returned (.bool true) ∧ Below w.heap.size w w' := by
  by_cases g0 : (1048576 : Int) < (len0 : Int)
  · go_enter Tryz.func9, Tryz.ntmps9
    go_wp2_with fail
    go_ret
    exact ⟨rfl, Below.refl _ _⟩
  go_enter Tryz.func9, Tryz.ntmps9
  go_wp2_with fail
  refine (drawPlanFlow_any _ _ _ _ h0).mono ?_
  rintro e w1 ⟨t, a2, i2, c2, iv, K, rfl, hsm, KD_1, LY_1, hfew, hKl, hb1⟩
  have hbw1 := hb1
  clear h0 hb1
  obtain rfl : i2 = t.len := by obtain ⟨q1, q2, e⟩ := KdS.sl KD_1; cases e; rfl
  obtain ⟨ia, ic, eiv⟩ := LyR.sl LY_1
  subst eiv
  have HM := (show Hid (t.sm) from hsm)
  have HW := (show Hid (∀ l ∈ K, fewR l) from hfew)
  clear hsm hfew
  have hbx2 : Below w1.heap.size w1 (w1.alloc (.cells #[.int .i64 t.k, .int .i64 t.n, .slice a2 t.len c2] 25)) := bAlloc (Below.refl _ _) _
  have PB_2 : Bk (w1.alloc (.cells #[.int .i64 t.k, .int .i64 t.n, .slice a2 t.len c2] 25)) w1.heap.size #[.int .i64 t.k, .int .i64 t.n, .slice a2 t.len c2] 25 := Bk.new _ _ rfl
  have KD_2 := KD_1.keep hbx2
  have LY_2 := LY_1.keep hbx2
  have hbw2 := bStep hbw1 hbx2
  clear KD_1 LY_1 hbw1 hbx2
  rcases hf : flowR t K with _ | r
  · have HF := (show Hid (flowR t K = none) from hf)
    clear hf
    obtain ⟨y00_2, y01_2, y02_2⟩ := PB_2.three'
    go_wp2_with fail
    clear y00_2 y01_2 y02_2
    refine (specFlow_no HF.out KD_2 LY_2).mono ?_
    rintro e w3 ⟨ow, rfl, W_3, hb3⟩
    have KD_3 := KD_2.keep hb3
    have LY_3 := LY_2.keep hb3
    have PB_3 := PB_2.keep hb3
    have hbw3 := bStep hbw2 hb3
    clear KD_2 LY_2 PB_2 hbw2 hb3
    obtain ⟨y00_3, y01_3, y02_3⟩ := PB_3.three'
    go_wp2_with fail
    clear y00_3 y01_3 y02_3
    refine (implFlow_no ea HF.out HM.out KD_3 LY_3 (cell_below hbw3 hg)).mono ?_
    rintro e w4 ⟨ox, rfl, X_4, hb4⟩
    have KD_4 := KD_3.keep hb4
    have LY_4 := LY_3.keep hb4
    have PB_4 := PB_3.keep hb4
    have W_4 := W_3.keep hb4
    have hbw4 := bStep hbw3 hb4
    clear KD_3 LY_3 PB_3 W_3 hbw3 hb4
    obtain ⟨ax, cx, ex, -⟩ := Rs.open X_4
    subst ex
    obtain ⟨y00_4, y01_4, y02_4⟩ := PB_4.three'
    go_wp2_with fail
    clear y00_4 y01_4 y02_4
    refine (lwRows_eq (selfR _) X_4 W_4).mono ?_
    rintro e w5 ⟨rfl, hb5⟩
    have KD_5 := KD_4.keep hb5
    have LY_5 := LY_4.keep hb5
    have PB_5 := PB_4.keep hb5
    have W_5 := W_4.keep hb5
    have X_5 := X_4.keep hb5
    have hbw5 := bStep hbw4 hb5
    clear KD_4 LY_4 PB_4 W_4 X_4 hbw4 hb5
    obtain ⟨y00_5, y01_5, y02_5⟩ := PB_5.three'
    go_wp2_with fail
    clear y00_5 y01_5 y02_5
    refine (lwRows_eq (selfR _) X_5 W_5).mono ?_
    rintro e w6 ⟨rfl, hb6⟩
    have KD_6 := KD_5.keep hb6
    have LY_6 := LY_5.keep hb6
    have PB_6 := PB_5.keep hb6
    have W_6 := W_5.keep hb6
    have X_6 := X_5.keep hb6
    have hbw6 := bStep hbw5 hb6
    clear KD_5 LY_5 PB_5 W_5 X_5 hbw5 hb6
    obtain ⟨y00_6, y01_6, y02_6⟩ := PB_6.three'
    go_wp2_with fail
    go_ret
    exact ⟨rfl, hbw6⟩
  · have HF := (show Hid (flowR t K = some r) from hf)
    have hrl := flowR_len hf
    clear hf
    obtain ⟨y00_2, y01_2, y02_2⟩ := PB_2.three'
    go_wp2_with fail
    clear y00_2 y01_2 y02_2
    refine (specFlow_yes HF.out KD_2 LY_2).mono ?_
    rintro e w3 ⟨ow, rfl, W_3, hb3⟩
    have KD_3 := KD_2.keep hb3
    have LY_3 := LY_2.keep hb3
    have PB_3 := PB_2.keep hb3
    have hbw3 := bStep hbw2 hb3
    clear KD_2 LY_2 PB_2 hbw2 hb3
    obtain ⟨y00_3, y01_3, y02_3⟩ := PB_3.three'
    go_wp2_with fail
    clear y00_3 y01_3 y02_3
    refine (implFlow_yes ea HF.out HM.out KD_3 LY_3 (cell_below hbw3 hg)).mono ?_
    rintro e w4 ⟨ox, rfl, X_4, hb4⟩
    have KD_4 := KD_3.keep hb4
    have LY_4 := LY_3.keep hb4
    have PB_4 := PB_3.keep hb4
    have W_4 := W_3.keep hb4
    have hbw4 := bStep hbw3 hb4
    clear KD_3 LY_3 PB_3 W_3 hbw3 hb4
    obtain ⟨y00_4, y01_4, y02_4⟩ := PB_4.three'
    go_wp2_with fail
    clear y00_4 y01_4 y02_4
    refine (lwRows_eq (selfR _) X_4 W_4).mono ?_
    rintro e w5 ⟨rfl, hb5⟩
    have KD_5 := KD_4.keep hb5
    have LY_5 := LY_4.keep hb5
    have PB_5 := PB_4.keep hb5
    have W_5 := W_4.keep hb5
    have X_5 := X_4.keep hb5
    have hbw5 := bStep hbw4 hb5
    clear KD_4 LY_4 PB_4 W_4 X_4 hbw4 hb5
    by_cases hl0 : t.len = 0
    · obtain ⟨y00_5, y01_5, y02_5⟩ := PB_5.three'
      rw [hl0] at y02_5
      go_wp2_with fail
      clear y00_5 y01_5 y02_5
      refine (lwRows_eq (selfR _) X_5 W_5).mono ?_
      rintro e w6 ⟨rfl, hb6⟩
      have KD_6 := KD_5.keep hb6
      have LY_6 := LY_5.keep hb6
      have PB_6 := PB_5.keep hb6
      have W_6 := W_5.keep hb6
      have X_6 := X_5.keep hb6
      have hbw6 := bStep hbw5 hb6
      clear KD_5 LY_5 PB_5 W_5 X_5 hbw5 hb6
      obtain ⟨y00_6, y01_6, y02_6⟩ := PB_6.three'
      go_wp2_with fail
      go_ret
      exact ⟨rfl, hbw6⟩
    · have H0 := (show Hid (t.len ≠ 0) from hl0)
      have z1 : (t.len == 0) = false := by simp [hl0]
      have z2 : ((t.len : Int) == 0) = false := by simp; exact hl0
      clear hl0
      have HC : Hid (∀ V : World, Below w5.heap.size w5 V → (V.cell? ⟨w1.heap.size, 0, none⟩ = some (.int .i64 t.k) ∧ V.cell? ⟨w1.heap.size, 1, none⟩ = some (.int .i64 t.n) ∧ V.cell? ⟨w1.heap.size, 2, none⟩ = some (.slice a2 t.len c2)) ∧ KdS w.heap.size V t (.slice a2 t.len c2) ∧ LyR V (.slice ia K.length ic) K ∧ V.cell? ⟨0, 0, none⟩ = some (erV ea) ∧ Rs V ox r) := fun V hV => ⟨(PB_5.keep hV).three', KD_5.keep hV, LY_5.keep hV, cell_below (bStep hbw5 hV) hg, X_5.keep hV⟩
      have tb0 : Bk ((w5.alloc (.cells #[] 29)).alloc (.cells #[.int .i64 t.k, .int .i64 t.n, .slice none 0 0] 25)) (w5.heap.size + 1) #[.int .i64 t.k, .int .i64 t.n, .slice none 0 0] 25 := Bk.new _ _ (by simp)
      have ov0 : OwnVR ((w5.alloc (.cells #[] 29)).alloc (.cells #[.int .i64 t.k, .int .i64 t.n, .slice none 0 0] 25)) w5.heap.size (.slice (some ⟨w5.heap.size, 0, none⟩) 0 0) [] := own_keep (ownVR_empty w5 rfl) (bAlloc (Below.refl _ _) _)
      have hb0 : Below w5.heap.size w5 ((w5.alloc (.cells #[] 29)).alloc (.cells #[.int .i64 t.k, .int .i64 t.n, .slice none 0 0] 25)) := bAlloc (bAlloc (Below.refl _ _) _) _
      obtain ⟨x0, x1, x2⟩ := PB_5.three'
      obtain ⟨x3, x4, x5⟩ := (PB_5.alloc (.cells #[] 29)).three'
      have HOV : Hid (OwnVR ((w5.alloc (.cells #[] 29)).alloc (.cells #[.int .i64 t.k, .int .i64 t.n, .slice none 0 0] 25)) w5.heap.size (.slice (some ⟨w5.heap.size, 0, none⟩) 0 0) []) := ov0
      have htl := PT.len_le t
      clear PB_5 KD_5 LY_5 X_5 ov0
      go_wp2_with fail
      clear x0 x1 x2 x3 x4 x5
      generalize ((w5.alloc (.cells #[] 29)).alloc (.cells #[.int .i64 t.k, .int .i64 t.n, .slice none 0 0] 25)) = W0 at *
      obtain ⟨b1, eb1⟩ : ∃ b1, w5.heap.size + 1 = b1 := ⟨_, rfl⟩
      rw [eb1] at tb0 ⊢
      have hord : w5.heap.size ≤ b1 := by omega
      clear eb1
      go_loopw [9, 11] (fun o i wr => ∃ k : Nat, i = .int .i64 k ∧ StepI t K w5 b1 k o wr) (fun _ i _ => t.len - (intOf i).toNat)
      case atStart => exact ⟨0, rfl, Nat.zero_le _, ⟨[], [], HOV.out, EoR.nil _ _, rfl, fun j l h => by simp at h⟩, ⟨_, tb0, ownK_nil _ _ _ _ _⟩, hord, hb0⟩
      case round =>
        clear tb0 HOV hb0
        obtain ⟨k, rfl, hI⟩ := hrel
        obtain ⟨hkl, ⟨vs, ys, hov, heo, hyl, hyk⟩, ⟨sl, htb, hop⟩, -, hb⟩ := hI
        have HO := (show Hid (OwnVR wr w5.heap.size u9 vs) from hov)
        have HE := (show Hid (EoR wr w5.heap.size vs ys) from heo)
        have HV : Hid (vs.length = k) := by show _ = _; rw [heo.1, hyl]
        have HYL := (show Hid (ys.length = k) from hyl)
        have HYK := (show Hid _ from hyk)
        have HP := (show Hid (OwnPl wr (b1 + 1) sl (inK k)) from hop)
        have hsz := hb.size
        clear hov heo hyl hyk hop
        obtain ⟨⟨p0, p1, p2⟩, hkd, hly, hge, -⟩ := HC.out _ hb
        have LYR : Hid (LyR wr (.slice ia K.length ic) K) := hly
        clear hly
        by_cases hlt2 : k < t.len
        · have ik : ((k : Int) < (t.len : Int)) := by omega
          obtain ⟨y, hy⟩ := flow_kid HF.out hlt2
          have HY := (show Hid (flowR (t.kid k) K = some y) from hy)
          obtain ⟨g, off, sx, rfl, hgl, c0, c1, c2, hkid, b2, m2, d2, rfl⟩ := hkd.at hlt2
          have HK : Hid (KdS w.heap.size wr (t.kid k) (.slice b2 m2 d2)) := hkid
          clear hy hkd hkid
          go_wp2_with fail
          refine (implFlow_own ea HY.out (PT.sm_kid HM.out hlt2) HK.out LYR.out hge).mono ?_
          rintro e w7 ⟨a7, c7, rfl, own7, hb7⟩
          have hrl := flowR_len HY.out
          have bn : Bk (w7.alloc (.cells #[.slice a7 y.length c7] 29)) w7.heap.size #[.slice a7 y.length c7] 29 := Bk.new _ _ rfl
          have hbn : Below w7.heap.size w7 (w7.alloc (.cells #[.slice a7 y.length c7] 29)) := bAlloc (Below.refl _ _) _
          have hbn2 := bStep hb7 hbn
          have HO8 := (show Hid (OwnVR (w7.alloc (.cells #[.slice a7 y.length c7] 29)) w5.heap.size u9 vs) from own_keep HO.out hbn2)
          have HE8 := (show Hid (EoR (w7.alloc (.cells #[.slice a7 y.length c7] 29)) w5.heap.size (vs ++ [.slice a7 y.length c7]) (ys ++ [y])) from (HE.out.keep hbn2).snoc (own_keep (own_less own7 (by omega)) hbn) (by omega))
          have HP8 := (show Hid (OwnPl (w7.alloc (.cells #[.slice a7 y.length c7] 29)) (b1 + 1) sl (inK k)) from own_keep HP.out hbn2)
          have tb8 := htb.keep hbn2
          have HB8 := (show Hid _ from bStep hb hbn2)
          have hz8 : (w7.alloc (.cells #[.slice a7 y.length c7] 29)).heap.size = w7.heap.size + 1 := by simp
          have hsz7 := hb7.size
          have hik := inK_len k
          have HNB : Hid (∀ q, u9.ownBlock = some q → b1 ≠ q) := fun q e e' => by
            obtain ⟨c, hc⟩ := ownVR_cells HO8.out e
            subst e'; exact bk_other hc tb8 (by decide) rfl
          have HNP : Hid (∀ q, u9.ownBlock = some q → sl.ownBlock ≠ some q) := fun q e e' => by
            obtain ⟨c, hc⟩ := ownVR_cells HO8.out e
            obtain ⟨d, hd⟩ := ownPl_cells HP8.out e'
            exact bk_other hc hd (by decide) rfl
          clear own7 hbn hbn2 HO HE HP c0 c1 c2 htb hge p0 p1 p2
          go_wp2_with (at_builtin; first
            | (refine appVR _ rfl _ _ rfl w5.heap.size _ vs rfl HO8.out _ _ _ _ rfl bn (by have := HV.out; omega) (by rw [hz8]; omega) ?_; intro g9 cap9 w9 own9 hg9 hlg9; have tb9 := tb8.grew hg9 HNB.out; have op9 : OwnPl w9 (b1 + 1) sl (inK k) := ownK_at HP8.out (fun q e => hg9.block q (ownK_lt HP8.out q e) (fun e' => HNP.out q e'.symm e)); have HP9 := (show Hid _ from op9); clear op9; obtain ⟨z0, z1', z2'⟩ := tb9.three'; have bn10 : Bk (w9.alloc (.cells #[.int .i64 1, .int .i64 k, .slice none 0 0] 25)) w9.heap.size #[.int .i64 1, .int .i64 k, .slice none 0 0] 25 := Bk.new _ _ rfl; have HP10 := (show Hid (OwnPl (w9.alloc (.cells #[.int .i64 1, .int .i64 k, .slice none 0 0] 25)) (b1 + 1) sl (inK k)) from own_keep HP9.out (bAlloc (Below.refl _ _) _)); have hlt9 := tb9.lt)
            | (refine appPl _ rfl _ _ rfl (b1 + 1) _ (inK k) rfl HP10.out _ _ _ _ _ _ rfl bn10 (by omega) (by simp; omega) ?_; intro g11 cap11 w11 own11 hg11 hlg11; have tb11 := (tb9.alloc (.cells #[.int .i64 1, .int .i64 k, .slice none 0 0] 25)).grew hg11 (fun q e => by have := ownK_base HP10.out q e; omega); have f2 := tb11.free 2; obtain ⟨y0, y1, y2⟩ := tb11.three'))
          have HB9 : Below w5.heap.size w5 w9 := Below.grew HB8.out hg9 (by rw [hz8]; omega) (fun q e => ownK_base HO8.out q e)
          refine ⟨⟨k + 1, by go_num, by
            rw [hik] at own11
            exact stepI_next hlt2 HYL.out HYK.out HY.out hord HB9 own9 (HE8.out.grew HO8.out hg9) tb9 HP9.out hg11 own11⟩, ?_⟩
          simp [intOf]; omega
        · obtain rfl : k = t.len := by omega
          have ik : ¬ ((t.len : Int) < (t.len : Int)) := by omega
          clear hkd hge LYR
          have hvl : vs.length = t.len := HV.out
          obtain ⟨au, cu, eu, -⟩ := OwnVR.vs HO.out (by omega)
          subst eu
          have hl12 : t.len = 1 ∨ t.len = 2 := by have := H0.out; omega
          have HT : Hid (OwnPl wr (b1 + 1) sl (inK t.len)) := HP.out
          rcases hl12 with h1 | h1
          · have HFT : Hid (flowR (stepT t) (ys ++ List.replicate 1 []) = some r) := flow_step HF.out HYL.out H0.out (by omega) HYK.out
            have hv1 : vs.length = 1 := by omega
            have hv2 : vs.length + 1 = 2 := by omega
            have bn : Bk (wr.alloc (.cells #[.slice none 0 0] 29)) wr.heap.size #[.slice none 0 0] 29 := Bk.new _ _ rfl
            have hbn : Below wr.heap.size wr (wr.alloc (.cells #[.slice none 0 0] 29)) := bAlloc (Below.refl _ _) _
            have hz8 : (wr.alloc (.cells #[.slice none 0 0] 29)).heap.size = wr.heap.size + 1 := by simp
            have HO8 : Hid (OwnVR (wr.alloc (.cells #[.slice none 0 0] 29)) w5.heap.size (.slice au 1 cu) vs) := by
              have h : OwnVR (wr.alloc (.cells #[.slice none 0 0] 29)) w5.heap.size (.slice au vs.length cu) vs := own_keep HO.out hbn
              rw [hv1] at h
              exact h
            rw [hv1]
            have HE8 := (show Hid (EoR (wr.alloc (.cells #[.slice none 0 0] 29)) w5.heap.size (vs ++ [.slice none 0 0]) (ys ++ [[]])) from (HE.out.keep hbn).snoc (ownK_nil _ _ _ _ _) (by simp))
            have HT8 : Hid (OwnPl (wr.alloc (.cells #[.slice none 0 0] 29)) (b1 + 1) sl (inK t.len)) := own_keep HT.out hbn
            have tb8 := htb.keep hbn
            have HB8 := (show Hid _ from bStep hb hbn)
            have HNB : Hid (∀ q, (Value.slice au 1 cu).ownBlock = some q → b1 ≠ q) := fun q e e' => by
              obtain ⟨c, hc⟩ := ownVR_cells HO8.out e
              subst e'; exact bk_other hc tb8 (by decide) rfl
            have HNP : Hid (∀ q, (Value.slice au 1 cu).ownBlock = some q → sl.ownBlock ≠ some q) := fun q e e' => by
              obtain ⟨c, hc⟩ := ownVR_cells HO8.out e
              obtain ⟨d, hd⟩ := ownPl_cells HT8.out e'
              exact bk_other hc hd (by decide) rfl
            clear HO HE HP HT htb h1
            go_wp2_with fail
            refine wp_loop_rounds 3 ?_
            rw [rounds_succ]
            go_wp2_with (at_builtin; go_must (refine appVR _ rfl _ _ rfl w5.heap.size _ vs rfl HO8.out _ _ _ _ rfl bn (by omega) (by rw [hz8]; omega) ?_); intro g9 cap9 w9 own9 hg9 hlg9; rw [hv2] at own9 ⊢; have tb9 := tb8.grew hg9 HNB.out; have hop9 : OwnPl w9 (b1 + 1) sl (inK t.len) := ownK_at HT8.out (fun q e => hg9.block q (ownK_lt HT8.out q e) (fun e' => HNP.out q e'.symm e)); have kd9 := kd_step hop9 H0.out; have HB9 : Below w5.heap.size w5 w9 := Below.grew HB8.out hg9 (by rw [hz8]; omega) (fun q e => ownK_base HO8.out q e); have ly9 : LyR w9 _ (ys ++ List.replicate 1 []) := (HE8.out.grew HO8.out hg9).ly own9 (by simp; omega); obtain ⟨-, -, -, hg9', rx9⟩ := HC.out _ HB9; obtain ⟨z0, z1', z2'⟩ := tb9.three')
            rw [rounds_succ]
            go_wp2_with fail
            refine (implFlow_top ea HFT.out HM.out kd9 ly9 hg9').mono ?_
            rintro e wz ⟨oz, rfl, rz, hbz⟩
            have rx10 := rx9.keep hbz
            have hbzz := bStep HB9 hbz
            clear ly9 kd9 tb9 hop9 z0 z1' z2'
            go_wp2_with fail
            refine (lwRows_eq (selfR _) rz rx10).mono ?_
            rintro e wy ⟨rfl, hby⟩
            have hbyy := bStep hbw5 (bStep hbzz hby)
            go_wp2_with fail
            go_ret
            exact ⟨rfl, hbyy⟩
          · have HFT : Hid (flowR (stepT t) (ys ++ List.replicate 0 []) = some r) := flow_step HF.out HYL.out H0.out (by omega) HYK.out
            have hv2 : vs.length = 2 := by omega
            have kd9 := kd_step HT.out H0.out
            have ly9 : LyR wr (.slice au vs.length cu) (ys ++ List.replicate 0 []) := by
              rw [List.replicate_zero, List.append_nil]
              exact HE.out.ly HO.out (by omega)
            rw [hv2] at ly9 ⊢
            obtain ⟨-, -, -, hg9', rx9⟩ := HC.out _ hb
            obtain ⟨z0, z1', z2'⟩ := htb.three'
            clear HO HE HP HT h1
            go_wp2_with fail
            refine wp_loop_rounds 3 ?_
            rw [rounds_succ]
            go_wp2_with fail
            refine (implFlow_top ea HFT.out HM.out kd9 ly9 hg9').mono ?_
            rintro e wz ⟨oz, rfl, rz, hbz⟩
            have rx10 := rx9.keep hbz
            have hbzz := bStep hb hbz
            clear ly9 kd9 htb z0 z1' z2'
            go_wp2_with fail
            refine (lwRows_eq (selfR _) rz rx10).mono ?_
            rintro e wy ⟨rfl, hby⟩
            have hbyy := bStep hbw5 (bStep hbzz hby)
            go_wp2_with fail
            go_ret
            exact ⟨rfl, hbyy⟩
end FnPlanStep
end Go.Proofs.YtldejkhemkjcgaaGreatDoor
