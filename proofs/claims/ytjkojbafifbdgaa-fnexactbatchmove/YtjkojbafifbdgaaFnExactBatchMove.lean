/- For every list of rows and list of times, whatever the numbers, BatchMove of the program answers as BatchMove of the model (more than 1048576 of them are passed by, as the law says), the lists are left as they were, the answer keeps nothing of them and owns its memory, behind another call too, and the arguments read afterwards as before. No condition. -/
import Derived.Test.YtjkojbafifbdgaaPf
import Derived.Test.YtjkojbafifbdgaaGb1
import Derived.Test.YtjkojbafifbdgaaFr25
import Derived.Test.YtjkojbafifbdgaaGs2
namespace Go.Proofs.Ytjkojbafifbdgaa
open Go.ChangeShapes Go.WideShapes Go.ChangeAt Go.RowKit Go.Joins

namespace FnExactBatchMove
set_option maxHeartbeats 16000000 in
theorem walk (a0 : Option Addr) (len0 cap0 : Nat) (a1 : Option Addr) (len1 cap1 : Nat) (w : World) (h0 : RsArg w a0 len0 cap0) (h1 : TsArg w a1 len1 cap1) :
    Calls Try.prog 5 #[.slice a0 len0 cap0, .slice a1 len1 cap1] w fun e w' => e = .returned (.bool true) ∧ Below w.heap.size w w' := by
  have hl0 := h0.1
  have hm0 := h0.2.1
  have hl1 := h1.1
  have hm1 := h1.2.1
  by_cases hbig0 : (1048576 : Int) < (len0 : Int)
  · go_enter Try.func5, Try.ntmps5
    go_wp2_with fail
    refine (szRowS_any _ _ _ _ _ hl0 hm0 (by omega) (by omega)).mono ?_
    rintro e wz0 ⟨rfl, rfl⟩
    rw [if_pos hbig0]
    go_wp2_with fail
    go_ret
    exact ⟨rfl, Below.refl _ _⟩
  by_cases hbig1 : ((1048576 - (len0 : Int)) : Int) < (len1 : Int)
  · go_enter Try.func5, Try.ntmps5
    go_wp2_with fail
    refine (szRowS_any _ _ _ _ _ hl0 hm0 (by omega) (by omega)).mono ?_
    rintro e wz0 ⟨rfl, rfl⟩
    rw [if_neg (by omega)]
    have hp0 : ¬ ((1048576 : Int) - (len0 : Int) < 0) := by omega
    go_wp2_with fail
    refine (szTimeS_any _ _ _ _ _ hl1 hm1 (by omega) (by omega)).mono ?_
    rintro e wz1 ⟨rfl, rfl⟩
    rw [if_pos hbig1]
    go_wp2_with fail
    go_ret
    exact ⟨rfl, Below.refl _ _⟩
  obtain ⟨l0, rfl, ht0⟩ := h0.rs (by omega)
  have hlen0 : l0.length ≤ maxLen := by unfold maxLen at *; omega
  have hn0 : l0.length ≤ 2097152 := by omega
  obtain ⟨l1, rfl, ht1⟩ := h1.ts (by omega)
  have hlen1 : l1.length ≤ maxLen := by unfold maxLen at *; omega
  have hn1 : l1.length ≤ 2097152 := by omega
  have hR := bmove_len l0 l1
  go_enter Try.func5, Try.ntmps5
  go_wp2_with fail
  refine (szRowS_any _ _ _ _ _ hl0 hm0 (by omega) (by omega)).mono ?_
  rintro e wz0 ⟨rfl, hwz0⟩
  subst hwz0
  rw [if_neg (by omega)]
  have hp0 : ¬ ((1048576 : Int) - (l0.length : Int) < 0) := by omega
  go_wp2_with fail
  refine (szTimeS_any _ _ _ _ _ hl1 hm1 (by omega) (by omega)).mono ?_
  rintro e wz1 ⟨rfl, hwz1⟩
  subst hwz1
  rw [if_neg (by omega)]
  have hp1 : ¬ ((1048576 : Int) - (l0.length : Int) - (l1.length : Int) < 0) := by omega
  go_wp2_with fail
  refine (toRowS_any _ l0 _ ht0).mono ?_
  rintro e w1 ⟨g1, c1, rfl, hg1, hbk1, hcs1, hfill1, hb1⟩
  have hbw1 := hb1
  have hsz1 := hb1.size
  have s0 := SlK.of_blk hbk1 hfill1 rowC_len (Nat.le_refl _) hlen0 hn0
  clear hcs1 hfill1 hbk1
  go_wp2_with fail
  refine (toTimeS_any _ l1 _ (ht1.keep hbw1)).mono ?_
  rintro e w2 ⟨g2, c2, rfl, hg2, hbk2, hcs2, hfill2, hb2⟩
  have hbw2 := bStep hbw1 hb2
  have s0_2 := s0.keep hb2
  have hsz2 := hb2.size
  have s1 := Ts.of_blk hbk2 hfill2 (Nat.le_refl _) hlen1 hn1
  clear hcs2 hfill2 hbk2
  go_wp2_with fail
  refine (specMove2_any _ _ l0 l1 _ s0_2 s1).mono ?_
  rintro e w3 ⟨o3, rfl, own3, hb3⟩
  have hbw3 := bStep hbw2 hb3
  have s0_3 := s0_2.keep hb3
  have s1_3 := s1.keep hb3
  have hsz3 := hb3.size
  have OS : Hid (OwnR w3 w2.heap.size o3 (bmoveL l0 l1)) := own3
  have SL := (show Hid _ from ownK_lt own3)
  have SB := (show Hid _ from ownK_base own3)
  clear own3
  go_wp2_with fail
  refine (toRowS_any _ l0 _ (ht0.keep hbw3)).mono ?_
  rintro e w4 ⟨g4, c4, rfl, hg4, hbk4, hcs4, hfill4, hb4⟩
  have hbw4 := bStep hbw3 hb4
  have OS_4 : Hid (OwnR w4  w2.heap.size o3 (bmoveL l0 l1)) := own_keep OS.out hb4
  have hsz4 := hb4.size
  have x0_ := SlK.of_blk hbk4 hfill4 rowC_len (Nat.le_refl _) hlen0 hn0
  have hlt4 := hbk4.lt
  clear hfill4
  go_wp2_with fail
  refine (toTimeS_any _ l1 _ (ht1.keep hbw4)).mono ?_
  rintro e w5 ⟨g5, c5, rfl, hg5, hbk5, hcs5, hfill5, hb5⟩
  have hbw5 := bStep hbw4 hb5
  have x0__5 := x0_.keep hb5
  have x0_b_5 := hbk4.keep hb5
  have OS_5 : Hid (OwnR w5  w2.heap.size o3 (bmoveL l0 l1)) := own_keep OS_4.out hb5
  have hsz5 := hb5.size
  have x1_ := Ts.of_blk hbk5 hfill5 (Nat.le_refl _) hlen1 hn1
  have hlt5 := hbk5.lt
  clear hfill5
  go_wp2_with fail
  refine (implMove2_any _ _ l0 l1 _ x0__5 x1_).mono ?_
  rintro e w6 ⟨o6, rfl, own6, hb6⟩
  have hbw6 := bStep hbw5 hb6
  have x0__6 := x0__5.keep hb6
  have x1__6 := x1_.keep hb6
  have x0_b_6 := x0_b_5.keep hb6
  have x1_b_6 := hbk5.keep hb6
  have OS_6 : Hid (OwnR w6  w2.heap.size o3 (bmoveL l0 l1)) := own_keep OS_5.out hb6
  have hsz6 := hb6.size
  have OG : Hid (OwnR w6 w5.heap.size o6 (bmoveL l0 l1)) := own6
  have GB := (show Hid _ from ownK_base own6)
  clear own6
  go_wp2_with fail
  refine (eqRowS_same _ _ _ _ (OwnR.rs OG.out (by omega)) (OwnR.rs OS_6.out (by omega))).mono ?_
  rintro e w7 ⟨rfl, hb7⟩
  have hbw7 := bStep hbw6 hb7
  have x0__7 := x0__6.keep hb7
  have x1__7 := x1__6.keep hb7
  have x0_b_7 := x0_b_6.keep hb7
  have x1_b_7 := x1_b_6.keep hb7
  have OS_7 : Hid (OwnR w7  w2.heap.size o3 (bmoveL l0 l1)) := own_keep OS_6.out hb7
  have OG_7 : Hid (OwnR w7  w5.heap.size o6 (bmoveL l0 l1)) := own_keep OG.out hb7
  have hsz7 := hb7.size
  go_wp2_with fail
  refine (toRowS_any _ l0 _ (ht0.keep hbw7)).mono ?_
  rintro e w8 ⟨g8, c8, rfl, hg8, hbk8, hcs8, hfill8, hb8⟩
  have hbw8 := bStep hbw7 hb8
  have x0__8 := x0__7.keep hb8
  have x1__8 := x1__7.keep hb8
  have x0_b_8 := x0_b_7.keep hb8
  have x1_b_8 := x1_b_7.keep hb8
  have OS_8 : Hid (OwnR w8  w2.heap.size o3 (bmoveL l0 l1)) := own_keep OS_7.out hb8
  have OG_8 : Hid (OwnR w8  w5.heap.size o6 (bmoveL l0 l1)) := own_keep OG_7.out hb8
  have hsz8 := hb8.size
  have q0 := SlK.of_blk hbk8 hfill8 rowC_len (Nat.le_refl _) hlen0 hn0
  clear hcs8 hfill8 hbk8
  go_wp2_with fail
  refine (eqRowS_same _ _ l0 _ x0__8 q0).mono ?_
  rintro e w9 ⟨rfl, hb9⟩
  have hbw9 := bStep hbw8 hb9
  have x0__9 := x0__8.keep hb9
  have x1__9 := x1__8.keep hb9
  have q0_9 := q0.keep hb9
  have x0_b_9 := x0_b_8.keep hb9
  have x1_b_9 := x1_b_8.keep hb9
  have OS_9 : Hid (OwnR w9  w2.heap.size o3 (bmoveL l0 l1)) := own_keep OS_8.out hb9
  have OG_9 : Hid (OwnR w9  w5.heap.size o6 (bmoveL l0 l1)) := own_keep OG_8.out hb9
  have hsz9 := hb9.size
  go_wp2_with fail
  refine (toTimeS_any _ l1 _ (ht1.keep hbw9)).mono ?_
  rintro e w10 ⟨g10, c10, rfl, hg10, hbk10, hcs10, hfill10, hb10⟩
  have hbw10 := bStep hbw9 hb10
  have x0__10 := x0__9.keep hb10
  have x1__10 := x1__9.keep hb10
  have x0_b_10 := x0_b_9.keep hb10
  have x1_b_10 := x1_b_9.keep hb10
  have OS_10 : Hid (OwnR w10  w2.heap.size o3 (bmoveL l0 l1)) := own_keep OS_9.out hb10
  have OG_10 : Hid (OwnR w10  w5.heap.size o6 (bmoveL l0 l1)) := own_keep OG_9.out hb10
  have hsz10 := hb10.size
  have q1 := Ts.of_blk hbk10 hfill10 (Nat.le_refl _) hlen1 hn1
  clear hcs10 hfill10 hbk10
  go_wp2_with fail
  refine (eqTimeS_same _ _ l1 _ x1__10 q1).mono ?_
  rintro e w11 ⟨rfl, hb11⟩
  have hbw11 := bStep hbw10 hb11
  have x0__11 := x0__10.keep hb11
  have x1__11 := x1__10.keep hb11
  have q1_11 := q1.keep hb11
  have x0_b_11 := x0_b_10.keep hb11
  have x1_b_11 := x1_b_10.keep hb11
  have OS_11 : Hid (OwnR w11  w2.heap.size o3 (bmoveL l0 l1)) := own_keep OS_10.out hb11
  have OG_11 : Hid (OwnR w11  w5.heap.size o6 (bmoveL l0 l1)) := own_keep OG_10.out hb11
  have hsz11 := hb11.size
  go_wp2_with fail
  refine (markRB_any g4 l0.length l0.length c4 1 _ x0_b_11 hcs4 (Nat.le_refl _) hn0 (by omega) (by omega)).mono ?_
  rintro e w12 ⟨c12, rfl, bm12, hcm12, hfm12, hx12⟩
  have hbw12 := hx12.below hbw11 (by omega) (by omega)
  have x1_b_12 := x1_b_11.keepx hx12 (by omega)
  have OS_12 : Hid (OwnR w12 w2.heap.size o3 (bmoveL l0 l1)) := ownK_beside OS_11.out hx12 (fun q e => by have := SL.out q e; omega)
  have OG_12 : Hid (OwnR w12 w5.heap.size o6 (bmoveL l0 l1)) := ownK_beside OG_11.out hx12 (fun q e => by have := GB.out q e; omega)
  have hsz12 := hx12.size
  clear bm12 hcm12 hfm12 hx12
  go_wp2_with fail
  refine (markB_any g5 l1.length l1.length c5 _ _ x1_b_12 hcs5 (Nat.le_refl _) hn1 (by omega) (by omega)).mono ?_
  rintro e w13 ⟨c13, rfl, bm13, hcm13, hfm13, hx13⟩
  have hbw13 := hx13.below hbw12 (by omega) (by omega)
  have OS_13 : Hid (OwnR w13 w2.heap.size o3 (bmoveL l0 l1)) := ownK_beside OS_12.out hx13 (fun q e => by have := SL.out q e; omega)
  have OG_13 : Hid (OwnR w13 w5.heap.size o6 (bmoveL l0 l1)) := ownK_beside OG_12.out hx13 (fun q e => by have := GB.out q e; omega)
  have hsz13 := hx13.size
  clear bm13 hcm13 hfm13 hx13
  have hkn : decide ((1 : Int) + 5 * (l0.length : Int) + 2 * (l1.length : Int) < 0) = false := by simp; omega
  go_wp2_with fail
  refine (eqRowS_same _ _ _ _ (OwnR.rs OG_13.out (by omega)) (OwnR.rs OS_13.out (by omega))).mono ?_
  rintro e w14 ⟨rfl, hb14⟩
  have hbw14 := bStep hbw13 hb14
  have OS_14 : Hid (OwnR w14  w2.heap.size o3 (bmoveL l0 l1)) := own_keep OS_13.out hb14
  have OG_14 : Hid (OwnR w14  w5.heap.size o6 (bmoveL l0 l1)) := own_keep OG_13.out hb14
  have hsz14 := hb14.size
  go_wp2_with fail
  refine (markRO_any OG_14.out (by omega) (by omega) 1 (by omega) (by omega)).mono ?_
  rintro e w15 ⟨rfl, om15, hb15⟩
  have hbw15 := hbw14.trans (hb15.mono (by omega))
  have OS_15 : Hid (OwnR w15 w2.heap.size o3 (bmoveL l0 l1)) := ownK_under OS_14.out hb15 (fun q e => by have := SL.out q e; omega)
  have OM_15 : Hid (OwnR w15 w5.heap.size o6 (marksR 1 (bmoveL l0 l1).length)) := om15
  have hsz15 := hb15.size
  clear om15 hb15
  have hqn : decide ((1 : Int) + 5 * ((bmoveL l0 l1).length : Int) < 0) = false := by simp; omega
  go_wp2_with fail
  refine (heldR_any _ (bmoveL l0 l1).length 1 _ (OwnR.rs OM_15.out (by rw [marksR_len]; omega)) (by omega) (by omega)).mono ?_
  rintro e w16 ⟨rfl, hb16⟩
  have hbw16 := bStep hbw15 hb16
  have OS_16 : Hid (OwnR w16  w2.heap.size o3 (bmoveL l0 l1)) := own_keep OS_15.out hb16
  have OM_16 : Hid (OwnR w16  w5.heap.size o6 (marksR 1 (bmoveL l0 l1).length)) := own_keep OM_15.out hb16
  have hsz16 := hb16.size
  go_wp2_with fail
  refine (toRowS_any _ l0 _ (ht0.keep hbw16)).mono ?_
  rintro e w17 ⟨g17, c17, rfl, hg17, hbk17, hcs17, hfill17, hb17⟩
  have hbw17 := bStep hbw16 hb17
  have OS_17 : Hid (OwnR w17  w2.heap.size o3 (bmoveL l0 l1)) := own_keep OS_16.out hb17
  have OM_17 : Hid (OwnR w17  w5.heap.size o6 (marksR 1 (bmoveL l0 l1).length)) := own_keep OM_16.out hb17
  have hsz17 := hb17.size
  have z0 := SlK.of_blk hbk17 hfill17 rowC_len (Nat.le_refl _) hlen0 hn0
  clear hcs17 hfill17 hbk17
  go_wp2_with fail
  refine (toTimeS_any _ l1 _ (ht1.keep hbw17)).mono ?_
  rintro e w18 ⟨g18, c18, rfl, hg18, hbk18, hcs18, hfill18, hb18⟩
  have hbw18 := bStep hbw17 hb18
  have z0_18 := z0.keep hb18
  have OS_18 : Hid (OwnR w18  w2.heap.size o3 (bmoveL l0 l1)) := own_keep OS_17.out hb18
  have OM_18 : Hid (OwnR w18  w5.heap.size o6 (marksR 1 (bmoveL l0 l1).length)) := own_keep OM_17.out hb18
  have hsz18 := hb18.size
  have z1 := Ts.of_blk hbk18 hfill18 (Nat.le_refl _) hlen1 hn1
  clear hcs18 hfill18 hbk18
  go_wp2_with fail
  refine (implMove2_any _ _ l0 l1 _ z0_18 z1).mono ?_
  rintro e w19 ⟨o19, rfl, own19, hb19⟩
  have hbw19 := bStep hbw18 hb19
  have z0_19 := z0_18.keep hb19
  have z1_19 := z1.keep hb19
  have OS_19 : Hid (OwnR w19  w2.heap.size o3 (bmoveL l0 l1)) := own_keep OS_18.out hb19
  have OM_19 : Hid (OwnR w19  w5.heap.size o6 (marksR 1 (bmoveL l0 l1).length)) := own_keep OM_18.out hb19
  have hsz19 := hb19.size
  have th := OwnR.rs own19 (by omega)
  clear own19
  go_wp2_with fail
  refine (eqRowS_same _ _ _ _ th (OwnR.rs OS_19.out (by omega))).mono ?_
  rintro e w20 ⟨rfl, hb20⟩
  have hbw20 := bStep hbw19 hb20
  have th_20 := th.keep hb20
  have OS_20 : Hid (OwnR w20  w2.heap.size o3 (bmoveL l0 l1)) := own_keep OS_19.out hb20
  have OM_20 : Hid (OwnR w20  w5.heap.size o6 (marksR 1 (bmoveL l0 l1).length)) := own_keep OM_19.out hb20
  have hsz20 := hb20.size
  go_wp2_with fail
  refine (heldR_any _ (bmoveL l0 l1).length 1 _ (OwnR.rs OM_20.out (by rw [marksR_len]; omega)) (by omega) (by omega)).mono ?_
  rintro e w21 ⟨rfl, hb21⟩
  have hbw21 := bStep hbw20 hb21
  go_wp2_with fail
  go_ret
  exact ⟨rfl, hbw21⟩
end FnExactBatchMove
namespace RowFnExactBatchMove
theorem own : ownKnob Try.prog.godebug = none := by kernel_rfl
set_option maxRecDepth 100000 in
theorem lifted (os : Os) (started : os.Started) (H : Type) (enc : TypeId × Value → H) :
    ReturnsInHanded {} Try.checked os 5 .any (Rows.fnExactBatchMoveSpec.pre6 enc Try.prog Try.f5 Rows.fnExactBatchMoveRow.domain false) (Rows.fnExactBatchMoveSpec.post enc Try.prog Try.f5 false true false false) := by
  refine returnsInHanded_of_change (C := Try.checked) own started (by kernel_rfl) Try.func5
    (ChangeSpec.witness6 (enc := enc) (C := Try.checked) false ⟨#[], #[.slice none 0 0, .slice none 0 0], []⟩ 8 (by kernel_rfl) (by kernel_rfl) (by kernel_rfl) (by kernel_rfl)) ?_
  intro W base args ds gs before hval0 hW hcnd _
  have hval : ∀ (j : Nat) t v, Try.f5.params[j]? = some t → args[j]? = some v → Value.okWide Try.prog W .any base t v := hval0
  have hW' := hW
  obtain ⟨p, q, hA0, hV, rfl, hfz, hnd⟩ := hW
  have hA : DataW.TrodAll enc Try.prog W 0 (fun _ => true) true Try.f5.params.toList args.toList ds p := hA0
  rw [Try.params5] at hA hval
  obtain ⟨v0, vs0, d0, ds0, p0, q0, hargs, rfl, rfl, h0, r0⟩ := trodAll_cons hA
  obtain ⟨v1, vs1, d1, ds1, p1, q1, rfl, rfl, rfl, h1, r1⟩ := trodAll_cons r0
  obtain ⟨rfl, rfl, rfl⟩ := trodAll_nil r1
  obtain rfl : args = #[v0, v1] := by cases args; simp_all
  obtain ⟨rfl, rfl⟩ := trodVars_none hV
  obtain ⟨a0, len0, cap0, rfl⟩ := okWide_slice Try.underlying41 (hval 0 41 v0 rfl rfl)
  have k0 := h0
  have lt0 : ∀ x ∈ p0, x.block < W.heap.size := by obtain ⟨m, hm⟩ := k0; exact DataW.trod_lt m _ _ _ hm
  have w0 : RsArg W a0 len0 cap0 := RsArg.of_trod h0
  obtain ⟨a1, len1, cap1, rfl⟩ := okWide_slice Try.underlying42 (hval 1 42 v1 rfl rfl)
  have k1 := h1
  have lt1 : ∀ x ∈ p1, x.block < W.heap.size := by obtain ⟨m, hm⟩ := k1; exact DataW.trod_lt m _ _ _ hm
  have w1 : TsArg W a1 len1 cap1 := TsArg.of_trod h1
  clear hA0 hval0
  refine (FnExactBatchMove.walk a0 len0 cap0 a1 len1 cap1 W w0 w1).mono fun e W' ⟨he, bel⟩ => ?_
  subst he
  exact ⟨_, rfl, _, _, _, [], _, [], hW', trodAll_mk1 (shut_bool Try.underlying4 _), (trodAll_cons_mk (Below.trod pfLaid (by kernel_rfl) (of_decide_eq_true (by kernel_rfl)) k0 bel lt0) (trodAll_cons_mk (Below.trod pfLaid (by kernel_rfl) (of_decide_eq_true (by kernel_rfl)) k1 bel lt1) trodAll_mk0)), rfl, bel.frame _, fun h => by cases h⟩
set_option maxHeartbeats 4000000 in
theorem closed : joinedFacts Try.prog 5 Try.f5 Rows.fnExactBatchMoveSpec Rows.fnExactBatchMoveRow = true := by
  unfold joinedFacts
  exact (andB (andB (andB (andB (andB (andB (andB (andB (andB (andB (andB (andB (andB (andB (andB (andB (andB (andB (andB (andB (andB (andB (andB (andB (andB (andB (andB (andB (andB (andB (andB (by as_aux_lemma => kernel_rfl) pfLaid) pfRowed) (by as_aux_lemma => kernel_rfl)) (by as_aux_lemma => kernel_rfl)) (by as_aux_lemma => kernel_rfl)) (by as_aux_lemma => kernel_rfl)) (by as_aux_lemma => kernel_rfl)) (by as_aux_lemma => kernel_rfl)) (by as_aux_lemma => kernel_rfl)) (by as_aux_lemma => kernel_rfl)) (by as_aux_lemma => kernel_rfl)) (by as_aux_lemma => kernel_rfl)) (by as_aux_lemma => kernel_rfl)) (by as_aux_lemma => kernel_rfl)) (by as_aux_lemma => kernel_rfl)) (by as_aux_lemma => kernel_rfl)) (by as_aux_lemma => kernel_rfl)) (by as_aux_lemma => kernel_rfl)) (by as_aux_lemma => kernel_rfl)) (by as_aux_lemma => kernel_rfl)) (by as_aux_lemma => kernel_rfl)) (by as_aux_lemma => kernel_rfl)) (by as_aux_lemma => kernel_rfl)) pfHeard) pfEnter) (pfLiftB rfl)) (pfMakeB rfl)) (by as_aux_lemma => kernel_rfl)) (by as_aux_lemma => kernel_rfl)) (by as_aux_lemma => kernel_rfl)) (by as_aux_lemma => kernel_rfl))
theorem over : Rows.fnExactBatchMoveRow.holds Try.pinned (OpenSpec.ofChange Rows.fnExactBatchMoveSpec) :=
  OpenClaim.holds_of_wide 5 Try.f5 rfl rfl rfl rfl rfl rfl rfl ⟨rfl, rfl, rfl, rfl, rfl⟩ rfl rfl rfl rfl rfl (by kernel_rfl) Try.func5 closed
    (of_decide_eq_true (by kernel_rfl)) (by unfold Func.isWrapper; first | (rw [if_pos (by decide +kernel)]; kernel_rfl) | (rw [if_neg (by decide +kernel)]; exact ⟨rfl, rfl⟩))
    (fun os started H enc _ => lifted os started H enc)
end RowFnExactBatchMove
theorem fnExactBatchMove_holds : Rows.FnExactBatchMoveSaid := RowFnExactBatchMove.over
end Go.Proofs.Ytjkojbafifbdgaa
