/- For all two lists of times, whatever their numbers, FrontBoth of the program answers as FrontBoth of the model (lists of more than 1048576 times together are passed by, as the law says), the lists are left as they were, the answer keeps nothing of them and owns its memory, behind another call too, and the arguments read afterwards as before. No condition. -/
import Derived.Test.YtpmkhempkblokaaFr4
import Derived.Test.YtpmkhempkblokaaFr23
import Derived.Test.YtpmkhempkblokaaFr25
namespace Go.Proofs.Ytpmkhempkblokaa
open Go.ChangeShapes Go.WideShapes Go.ChangeAt Go.RowKit Go.Joins

namespace FnExactFrontBoth
set_option maxHeartbeats 16000000 in
theorem walk (a : Option Addr) (len cap : Nat) (a' : Option Addr) (len' cap' : Nat) (w : World) (h0 : TsArg w a len cap) (h1 : TsArg w a' len' cap') :
    Calls Try.prog 15 #[.slice a len cap, .slice a' len' cap'] w fun e w' => e = .returned (.bool true) ∧ Below w.heap.size w w' := by
  have hl := h0.1
  have hm := h0.2.1
  have hl' := h1.1
  have hm' := h1.2.1
  by_cases hbig : (1048576 : Int) < (len : Int)
  · go_enter Try.func15, Try.ntmps15
    go_wp2_with fail
    refine (szTimeS_any _ _ _ _ _ hl hm (by omega) (by omega)).mono ?_
    rintro e w1 ⟨rfl, rfl⟩
    rw [if_pos hbig]
    go_wp2_with fail
    go_ret
    exact ⟨rfl, Below.refl _ _⟩
  have hpos : decide ((1048576 : Int) - (len : Int) < 0) = false := by simp; omega
  by_cases hbig' : (1048576 : Int) - (len : Int) < (len' : Int)
  · go_enter Try.func15, Try.ntmps15
    go_wp2_with fail
    refine (szTimeS_any _ _ _ _ _ hl hm (by omega) (by omega)).mono ?_
    rintro e w1 ⟨rfl, hw1⟩
    subst hw1
    rw [if_neg (by omega)]
    go_wp2_with fail
    refine (szTimeS_any _ _ _ _ _ hl' hm' (by omega) (by omega)).mono ?_
    rintro e w2 ⟨rfl, hw2⟩
    subst hw2
    rw [if_pos hbig']
    go_wp2_with fail
    go_ret
    exact ⟨rfl, Below.refl _ _⟩
  have hpos' : decide ((1048576 : Int) - (len : Int) - (len' : Int) < 0) = false := by simp; omega
  obtain ⟨f, rfl, htf⟩ := h0.ts (by omega)
  obtain ⟨g, rfl, htg⟩ := h1.ts (by omega)
  have hlenf : f.length ≤ maxLen := by unfold maxLen at *; omega
  have hlnf : f.length ≤ 2097152 := by omega
  have hleng : g.length ≤ maxLen := by unfold maxLen at *; omega
  have hlng : g.length ≤ 2097152 := by omega
  have hF8 := both_len f g
  go_enter Try.func15, Try.ntmps15
  go_wp2_with fail
  refine (szTimeS_any _ _ _ _ _ hl hm (by omega) (by omega)).mono ?_
  rintro e wa ⟨rfl, hwa⟩
  subst hwa
  rw [if_neg (by omega)]
  go_wp2_with fail
  refine (szTimeS_any _ _ _ _ _ hl' hm' (by omega) (by omega)).mono ?_
  rintro e w0 ⟨rfl, hw0⟩
  subst hw0
  rw [if_neg (by omega)]
  have hbw0 : Below w0.heap.size w0 w0 := Below.refl _ _
  go_wp2_with fail

  refine (toTimeS_any _ f _ (htf.keep hbw0)).mono ?_
  rintro e w1 ⟨Kp, cp, rfl, hgp, bkp, szp, fip, hb1⟩
  have hbw1 := bStep hbw0 hb1
  have hs1 := hb1.size
  have p_1 := Ts.of_blk bkp fip (Nat.le_refl _) hlenf hlnf
  clear hbw0 hb1 
  go_wp2_with fail
  refine (toTimeS_any _ g _ (htg.keep hbw1)).mono ?_
  rintro e w2 ⟨Kq, cq, rfl, hgq, bkq, szq, fiq, hb2⟩
  have hbw2 := bStep hbw1 hb2
  have hs2 := hb2.size
  have p_2 := p_1.keep hb2
  have q_2 := Ts.of_blk bkq fiq (Nat.le_refl _) hleng hlng
  clear hbw1 hb2 p_1 
  go_wp2_with fail
  have hsw2 := hbw2.size
  refine (specBoth_any _ _ f g _ p_2 q_2).mono ?_
  rintro e w3 ⟨o1, rfl, own1, hb3⟩
  have hbw3 := bStep hbw2 hb3
  have hs3 := hb3.size
  have O_3 := (show Hid _ from own1)
  have OL := (show Hid _ from own_lt own1)
  clear hbw2 hb3 own1 p_2 q_2 bkp bkq szp szq fip fiq
  go_wp2_with fail
  have hso := hbw3.size
  refine (toTimeS_any _ f _ (htf.keep hbw3)).mono ?_
  rintro e w4 ⟨Kx, cx, rfl, hgx, bkx, szx, fix, hb4⟩
  have hbw4 := bStep hbw3 hb4
  have hs4 := hb4.size
  have O_4 := (show Hid _ from own_keep O_3.out hb4)
  have x_4 := Ts.of_blk bkx fix (Nat.le_refl _) hlenf hlnf
  clear hbw3 hb4 O_3 
  go_wp2_with fail
  have bx_4 := bkx
  have ltx := bkx.lt
  refine (toTimeS_any _ g _ (htg.keep hbw4)).mono ?_
  rintro e w5 ⟨Ky, cy, rfl, hgy, bky, szy, fiy, hb5⟩
  have hbw5 := bStep hbw4 hb5
  have hs5 := hb5.size
  have O_5 := (show Hid _ from own_keep O_4.out hb5)
  have bx_5 := bx_4.keep hb5
  have x_5 := x_4.keep hb5
  have y_5 := Ts.of_blk bky fiy (Nat.le_refl _) hleng hlng
  clear hbw4 hb5 O_4 bx_4 x_4 
  go_wp2_with fail
  have bv_5 := bky
  have lty := bky.lt
  refine (implBoth_any _ _ f g _ x_5 y_5).mono ?_
  rintro e w6 ⟨o2, rfl, own2, hb6⟩
  have hbw6 := bStep hbw5 hb6
  have hs6 := hb6.size
  have O_6 := (show Hid _ from own_keep O_5.out hb6)
  have bx_6 := bx_5.keep hb6
  have bv_6 := bv_5.keep hb6
  have x_6 := x_5.keep hb6
  have y_6 := y_5.keep hb6
  have P_6 := (show Hid _ from own2)
  have PB := (show Hid _ from own_base own2)
  have tg := Own.ts own2 (by omega)
  have tw := Own.ts O_6.out (by omega)
  clear hbw5 hb6 O_5 bx_5 bv_5 x_5 y_5 own2
  go_wp2_with fail
  refine (eqTimeS_same _ _ _ _ tg tw).mono ?_
  rintro e w7 ⟨rfl, hb7⟩
  have hbw7 := bStep hbw6 hb7
  have hs7 := hb7.size
  have O_7 := (show Hid _ from own_keep O_6.out hb7)
  have P_7 := (show Hid _ from own_keep P_6.out hb7)
  have bx_7 := bx_6.keep hb7
  have bv_7 := bv_6.keep hb7
  have x_7 := x_6.keep hb7
  have y_7 := y_6.keep hb7
  clear hbw6 hb7 O_6 P_6 bx_6 bv_6 x_6 y_6 tg tw
  go_wp2_with fail
  refine (toTimeS_any _ f _ (htf.keep hbw7)).mono ?_
  rintro e w8 ⟨Kz, cz, rfl, hgz, bkz, szz, fiz, hb8⟩
  have hbw8 := bStep hbw7 hb8
  have hs8 := hb8.size
  have O_8 := (show Hid _ from own_keep O_7.out hb8)
  have P_8 := (show Hid _ from own_keep P_7.out hb8)
  have bx_8 := bx_7.keep hb8
  have bv_8 := bv_7.keep hb8
  have x_8 := x_7.keep hb8
  have y_8 := y_7.keep hb8
  have z_8 := Ts.of_blk bkz fiz (Nat.le_refl _) hlenf hlnf
  clear hbw7 hb8 O_7 P_7 bx_7 bv_7 x_7 y_7 
  go_wp2_with fail
  refine (eqTimeS_same _ _ f _ x_8 z_8).mono ?_
  rintro e w9 ⟨rfl, hb9⟩
  have hbw9 := bStep hbw8 hb9
  have hs9 := hb9.size
  have O_9 := (show Hid _ from own_keep O_8.out hb9)
  have P_9 := (show Hid _ from own_keep P_8.out hb9)
  have bx_9 := bx_8.keep hb9
  have bv_9 := bv_8.keep hb9
  have y_9 := y_8.keep hb9
  clear hbw8 hb9 O_8 P_8 bx_8 bv_8 y_8 x_8 z_8 bkz szz fiz
  go_wp2_with fail
  refine (toTimeS_any _ g _ (htg.keep hbw9)).mono ?_
  rintro e w10 ⟨Ku, cu, rfl, hgu, bku, szu, fiu, hb10⟩
  have hbw10 := bStep hbw9 hb10
  have hs10 := hb10.size
  have O_10 := (show Hid _ from own_keep O_9.out hb10)
  have P_10 := (show Hid _ from own_keep P_9.out hb10)
  have bx_10 := bx_9.keep hb10
  have bv_10 := bv_9.keep hb10
  have y_10 := y_9.keep hb10
  have u_10 := Ts.of_blk bku fiu (Nat.le_refl _) hleng hlng
  clear hbw9 hb10 O_9 P_9 bx_9 bv_9 y_9 
  go_wp2_with fail
  refine (eqTimeS_same _ _ g _ y_10 u_10).mono ?_
  rintro e w11 ⟨rfl, hb11⟩
  have hbw11 := bStep hbw10 hb11
  have hs11 := hb11.size
  have O_11 := (show Hid _ from own_keep O_10.out hb11)
  have P_11 := (show Hid _ from own_keep P_10.out hb11)
  have bx_11 := bx_10.keep hb11
  have bv_11 := bv_10.keep hb11
  clear hbw10 hb11 O_10 P_10 bx_10 bv_10 y_10 u_10 bku szu fiu
  go_wp2_with fail
  refine (markB_any Kx f.length f.length cx 1 w11 bx_11 szx (Nat.le_refl _) hlnf (by omega) (by omega)).mono ?_
  rintro e w12 ⟨cm12, rfl, bm12, sm12, fm12, hx12⟩
  have hbw12 := hx12.below hbw11 (by omega) (by omega)
  have hs12 := hx12.size
  have O_12 := (show Hid _ from own_beside O_11.out hx12 (fun k e => by have := OL.out k e; omega))
  have P_12 := (show Hid _ from own_beside P_11.out hx12 (fun k e => by have := PB.out k e; omega))
  have bv_12 := bv_11.keepx hx12 (by omega)
  clear O_11 P_11 bx_11 hbw11 sm12 fm12 bm12 bv_11 hx12
  go_wp2_with fail
  refine (markB_any Ky g.length g.length cy (1 + 2 * (f.length : Int)) w12 bv_12 szy (Nat.le_refl _) hlng (by omega) (by omega)).mono ?_
  rintro e w13 ⟨cm13, rfl, bm13, sm13, fm13, hx13⟩
  have hbw13 := hx13.below hbw12 (by omega) (by omega)
  have hs13 := hx13.size
  have O_13 := (show Hid _ from own_beside O_12.out hx13 (fun k e => by have := OL.out k e; omega))
  have P_13 := (show Hid _ from own_beside P_12.out hx13 (fun k e => by have := PB.out k e; omega))
  clear O_12 P_12 bv_12 hbw12 sm13 fm13 bm13 hx13
  have hkn : decide ((1 : Int) + 2 * (f.length : Int) + 2 * (g.length : Int) < 0) = false := by simp; omega
  have tg := Own.ts P_13.out (by omega)
  have tw := Own.ts O_13.out (by omega)
  go_wp2_with fail
  refine (eqTimeS_same _ _ _ _ tg tw).mono ?_
  rintro e w14 ⟨rfl, hb14⟩
  have hbw14 := bStep hbw13 hb14
  have hs14 := hb14.size
  have O_14 := (show Hid _ from own_keep O_13.out hb14)
  have P_14 := (show Hid _ from own_keep P_13.out hb14)
  clear hbw13 hb14 O_13 P_13 tg tw
  go_wp2_with fail
  refine (markO_any P_14.out (by omega) (by omega) 1 (by omega) (by omega)).mono ?_
  rintro e w15 ⟨rfl, own5, hb15⟩
  have hbw15 := hbw14.trans (hb15.mono (by omega))
  have hs15 := hb15.size
  have O_15 := (show Hid _ from own_under O_14.out hb15 (fun k e => by have := OL.out k e; omega))
  have P_15 := (show Hid _ from own5)
  have tm := Own.ts own5 (by rw [marksL_len]; omega)
  clear O_14 P_14 hbw14 hb15 own5
  go_wp2_with fail
  refine (held_any _ (bothL f g).length 1 _ tm (by omega) (by omega)).mono ?_
  rintro e w16 ⟨rfl, hb16⟩
  have hbw16 := bStep hbw15 hb16
  have hs16 := hb16.size
  have O_16 := (show Hid _ from own_keep O_15.out hb16)
  have P_16 := (show Hid _ from own_keep P_15.out hb16)
  have hqn : decide ((1 : Int) + 2 * ((bothL f g).length : Int) < 0) = false := by simp; omega
  clear hbw15 hb16 O_15 P_15 tm
  go_wp2_with fail
  refine (toTimeS_any _ f _ (htf.keep hbw16)).mono ?_
  rintro e w17 ⟨Kr, cr, rfl, hgr, bkr, szr, fir, hb17⟩
  have hbw17 := bStep hbw16 hb17
  have hs17 := hb17.size
  have O_17 := (show Hid _ from own_keep O_16.out hb17)
  have P_17 := (show Hid _ from own_keep P_16.out hb17)
  have r_17 := Ts.of_blk bkr fir (Nat.le_refl _) hlenf hlnf
  clear hbw16 hb17 O_16 P_16 
  go_wp2_with fail
  refine (toTimeS_any _ g _ (htg.keep hbw17)).mono ?_
  rintro e w18 ⟨Ks, cs, rfl, hgs, bks, szs, fis, hb18⟩
  have hbw18 := bStep hbw17 hb18
  have hs18 := hb18.size
  have O_18 := (show Hid _ from own_keep O_17.out hb18)
  have P_18 := (show Hid _ from own_keep P_17.out hb18)
  have r_18 := r_17.keep hb18
  have s_18 := Ts.of_blk bks fis (Nat.le_refl _) hleng hlng
  clear hbw17 hb18 O_17 P_17 r_17 
  go_wp2_with fail
  refine (implBoth_any _ _ f g _ r_18 s_18).mono ?_
  rintro e w19 ⟨o3, rfl, own3, hb19⟩
  have hbw19 := bStep hbw18 hb19
  have hs19 := hb19.size
  have O_19 := (show Hid _ from own_keep O_18.out hb19)
  have P_19 := (show Hid _ from own_keep P_18.out hb19)
  have th := Own.ts own3 (by omega)
  have tw := Own.ts O_19.out (by omega)
  clear hbw18 hb19 O_18 P_18 own3 r_18 s_18
  go_wp2_with fail
  refine (eqTimeS_same _ _ _ _ th tw).mono ?_
  rintro e w20 ⟨rfl, hb20⟩
  have hbw20 := bStep hbw19 hb20
  have hs20 := hb20.size
  have O_20 := (show Hid _ from own_keep O_19.out hb20)
  have P_20 := (show Hid _ from own_keep P_19.out hb20)
  have tm := Own.ts P_20.out (by rw [marksL_len]; omega)
  clear hbw19 hb20 O_19 P_19 th tw
  go_wp2_with fail
  refine (held_any _ (bothL f g).length 1 _ tm (by omega) (by omega)).mono ?_
  rintro e w21 ⟨rfl, hb21⟩
  have hbw21 := bStep hbw20 hb21
  clear hbw20 hb21 tm O_20 P_20
  go_wp2_with fail
  go_ret
  exact ⟨rfl, hbw21⟩
end FnExactFrontBoth
namespace RowFnExactFrontBoth
theorem own : ownKnob Try.prog.godebug = none := by kernel_rfl
theorem laidOut : laidOutB Try.prog = true := by kernel_rfl
set_option maxRecDepth 100000 in
theorem lifted (os : Os) (started : os.Started) (H : Type) (enc : TypeId × Value → H) :
    ReturnsInHanded {} Try.checked os 15 .any (Rows.fnExactFrontBothSpec.pre6 enc Try.prog Try.f15 Rows.fnExactFrontBothRow.domain false) (Rows.fnExactFrontBothSpec.post enc Try.prog Try.f15 false true false false) := by
  refine returnsInHanded_of_change (C := Try.checked) own started (by kernel_rfl) Try.func15
    (ChangeSpec.witness6 (enc := enc) (C := Try.checked) false ⟨#[], #[.slice none 0 0, .slice none 0 0], []⟩ 8 (by kernel_rfl) (by kernel_rfl) (by kernel_rfl) (by kernel_rfl)) ?_
  intro W base args ds gs before hval0 hW hcnd _
  have hval : ∀ (j : Nat) t v, Try.f15.params[j]? = some t → args[j]? = some v → Value.okWide Try.prog W .any base t v := hval0
  have hW' := hW
  obtain ⟨p, q, hA0, hV, rfl, hfz, hnd⟩ := hW
  have hA : DataW.TrodAll enc Try.prog W 0 (fun _ => true) true Try.f15.params.toList args.toList ds p := hA0
  rw [Try.params15] at hA hval
  obtain ⟨v0, vs0, d0, ds0, p0, q0, hargs, rfl, rfl, h0, r0⟩ := trodAll_cons hA
  obtain ⟨v1, vs1, d1, ds1, p1, q1, rfl, rfl, rfl, h1, r1⟩ := trodAll_cons r0
  obtain ⟨rfl, rfl, rfl⟩ := trodAll_nil r1
  obtain rfl : args = #[v0, v1] := by cases args; simp_all
  obtain ⟨rfl, rfl⟩ := trodVars_none hV
  obtain ⟨a0, len0, cap0, rfl⟩ := okWide_slice Try.underlying41 (hval 0 41 v0 rfl rfl)
  have k0 := h0
  have lt0 : ∀ x ∈ p0, x.block < W.heap.size := by obtain ⟨m, hm⟩ := k0; exact DataW.trod_lt m _ _ _ hm
  have w0 : TsArg W a0 len0 cap0 := TsArg.of_trod h0
  obtain ⟨a1, len1, cap1, rfl⟩ := okWide_slice Try.underlying41 (hval 1 41 v1 rfl rfl)
  have k1 := h1
  have lt1 : ∀ x ∈ p1, x.block < W.heap.size := by obtain ⟨m, hm⟩ := k1; exact DataW.trod_lt m _ _ _ hm
  have w1 : TsArg W a1 len1 cap1 := TsArg.of_trod h1
  clear hA0 hval0
  refine (FnExactFrontBoth.walk a0 len0 cap0 a1 len1 cap1 W w0 w1).mono fun e W' ⟨he, bel⟩ => ?_
  subst he
  exact ⟨_, rfl, _, _, _, [], _, [], hW', trodAll_mk1 (shut_bool Try.underlying4 _), (trodAll_cons_mk (Below.trod laidOut (by kernel_rfl) (of_decide_eq_true (by kernel_rfl)) k0 bel lt0) (trodAll_cons_mk (Below.trod laidOut (by kernel_rfl) (of_decide_eq_true (by kernel_rfl)) k1 bel lt1) trodAll_mk0)), rfl, bel.frame _, fun h => by cases h⟩
theorem over : Rows.fnExactFrontBothRow.holds Try.pinned (OpenSpec.ofChange Rows.fnExactFrontBothSpec) :=
  OpenClaim.holds_of_wide 15 Try.f15 rfl rfl rfl rfl rfl rfl rfl ⟨rfl, rfl, rfl, rfl, rfl⟩ rfl rfl rfl rfl rfl (by kernel_rfl) Try.func15 (by kernel_rfl)
    (of_decide_eq_true (by kernel_rfl)) (by unfold Func.isWrapper; first | (rw [if_pos (by decide +kernel)]; kernel_rfl) | (rw [if_neg (by decide +kernel)]; exact ⟨rfl, rfl⟩))
    (fun os started H enc _ => lifted os started H enc)
end RowFnExactFrontBoth
theorem fnExactFrontBoth_holds : Rows.FnExactFrontBothSaid := RowFnExactFrontBoth.over
end Go.Proofs.Ytpmkhempkblokaa
