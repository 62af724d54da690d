/- For all bytes, twice: FlowJoin of the program makes of the rows that they draw what the model makes of them, and what FlowJoin and FlowEach make of rows that are moved to the front that they draw says the same of all times at the front, or behind it; the arguments read afterwards as before. No condition. -/
import Derived.Test.YtpjmkejojenflaaGreatPf
import Derived.Test.YtpjmkejojenflaaGreatGj5
import Derived.Test.YtpjmkejojenflaaGreatGe2
import Derived.Test.YtpjmkejojenflaaGreatMv
import Derived.Test.YtpjmkejojenflaaGreatGd6
namespace Go.Proofs.YtpjmkejojenflaaGreat
open Go.ChangeShapes Go.WideShapes Go.ChangeAt Go.RowKit Go.Joins

namespace FnFlowMove
set_option maxRecDepth 100000 in
set_option maxHeartbeats 8000000 in
theorem walk (x0 : Option Addr) (len0 cap0 : Nat) (x1 : Option Addr) (len1 cap1 : Nat) (w : World) (h0 : Src w (.slice x0 len0 cap0) len0) (h1 : Src w (.slice x1 len1 cap1) len1) :
    Calls Tryz.prog 5 #[.slice x0 len0 cap0, .slice x1 len1 cap1] w fun e w' => e = .returned (.bool true) ∧ Below w.heap.size w w' := by
  by_cases g0 : (1048576 : Int) < (len0 : Int)
  · go_enter Tryz.func5, Tryz.ntmps5
    go_wp2_with fail
    go_ret
    exact ⟨rfl, Below.refl _ _⟩
  by_cases g1 : (1048576 : Int) < (len1 : Int)
  · go_enter Tryz.func5, Tryz.ntmps5
    go_wp2_with fail
    go_ret
    exact ⟨rfl, Below.refl _ _⟩
  go_enter Tryz.func5, Tryz.ntmps5
  go_wp2_with fail
  refine (drawFlowJoin_any _ _ _ _ h0).mono ?_
  rintro e w1 ⟨oa, ob, a, b, rfl, hda, hdb, R_1, T_1, hb1⟩
  have h1_1 := h1.keep hb1
  have hbw1 := hb1
  clear h0 h1 hb1
  go_wp2_with fail
  refine (drawBatchMove_any _ _ _ _ h1_1).mono ?_
  rintro e w2 ⟨oc, ot, c, f, rfl, hdc, hlf, U_2, F_2, hb2⟩
  have R_2 := R_1.keep hb2
  have T_2 := T_1.keep hb2
  have hbw2 := bStep hbw1 hb2
  clear h1_1 R_1 T_1 hbw1 hb2
  obtain ⟨L, hL_L⟩ : ∃ zz, fjoinL a b = zz := ⟨_, rfl⟩
  have HL : Hid (fjoinL a b = L) := hL_L
  clear hL_L
  go_wp2_with fail
  refine (implFlowJoin_k HL.out R_2 T_2).mono ?_
  rintro e w3 ⟨ox, rfl, X_3, hb3⟩
  have R_3 := R_2.keep hb3
  have T_3 := T_2.keep hb3
  have F_3 := F_2.keep hb3
  have hbw3 := bStep hbw2 hb3
  clear R_2 T_2 U_2 F_2 hbw2 hb3
  go_wp2_with fail
  refine (specFlowJoin_k HL.out R_3 T_3).mono ?_
  rintro e w4 ⟨os, rfl, S_4, hb4⟩
  have R_4 := R_3.keep hb4
  have T_4 := T_3.keep hb4
  have F_4 := F_3.keep hb4
  have X_4 := X_3.keep hb4
  have hbw4 := bStep hbw3 hb4
  clear R_3 T_3 F_3 X_3 hbw3 hb4
  go_wp2_with fail
  refine (lwRows_eq (selfR _) X_4 S_4).mono ?_
  rintro e w5 ⟨rfl, hb5⟩
  have R_5 := R_4.keep hb5
  have T_5 := T_4.keep hb5
  have F_5 := F_4.keep hb5
  have X_5 := X_4.keep hb5
  have hbw5 := bStep hbw4 hb5
  clear R_4 T_4 F_4 X_4 S_4 hbw4 hb5
  cases hk : rokB a
  · go_wp2_with fail
    refine (specRowsOk_eq hk R_5).mono ?_
    rintro e w6 ⟨rfl, hb6⟩
    have R_6 := R_5.keep hb6
    have T_6 := T_5.keep hb6
    have F_6 := F_5.keep hb6
    have X_6 := X_5.keep hb6
    have hbw6 := bStep hbw5 hb6
    clear R_5 T_5 F_5 X_5 hbw5 hb6
    go_wp2_with fail
    refine (specFlowJoin_k HL.out R_6 T_6).mono ?_
    rintro e w7 ⟨os, rfl, S_7, hb7⟩
    have R_7 := R_6.keep hb7
    have T_7 := T_6.keep hb7
    have F_7 := F_6.keep hb7
    have X_7 := X_6.keep hb7
    have hbw7 := bStep hbw6 hb7
    clear R_6 T_6 F_6 X_6 hbw6 hb7
    go_wp2_with fail
    refine (lwRows_eq (selfR _) X_7 S_7).mono ?_
    rintro e w8 ⟨rfl, hb8⟩
    have R_8 := R_7.keep hb8
    have T_8 := T_7.keep hb8
    have F_8 := F_7.keep hb8
    have X_8 := X_7.keep hb8
    have S_8 := S_7.keep hb8
    have hbw8 := bStep hbw7 hb8
    clear R_7 T_7 F_7 X_7 S_7 hbw7 hb8
    go_wp2_with fail
    go_ret
    exact ⟨rfl, hbw8⟩
  · cases hk2 : rokB b
    · go_wp2_with fail
      refine (specRowsOk_eq hk R_5).mono ?_
      rintro e w6 ⟨rfl, hb6⟩
      have R_6 := R_5.keep hb6
      have T_6 := T_5.keep hb6
      have F_6 := F_5.keep hb6
      have X_6 := X_5.keep hb6
      have hbw6 := bStep hbw5 hb6
      clear R_5 T_5 F_5 X_5 hbw5 hb6
      go_wp2_with fail
      refine (specRowsOk_eq hk2 T_6).mono ?_
      rintro e w7 ⟨rfl, hb7⟩
      have R_7 := R_6.keep hb7
      have T_7 := T_6.keep hb7
      have F_7 := F_6.keep hb7
      have X_7 := X_6.keep hb7
      have hbw7 := bStep hbw6 hb7
      clear R_6 T_6 F_6 X_6 hbw6 hb7
      go_wp2_with fail
      refine (specFlowJoin_k HL.out R_7 T_7).mono ?_
      rintro e w8 ⟨os, rfl, S_8, hb8⟩
      have R_8 := R_7.keep hb8
      have T_8 := T_7.keep hb8
      have F_8 := F_7.keep hb8
      have X_8 := X_7.keep hb8
      have hbw8 := bStep hbw7 hb8
      clear R_7 T_7 F_7 X_7 hbw7 hb8
      go_wp2_with fail
      refine (lwRows_eq (selfR _) X_8 S_8).mono ?_
      rintro e w9 ⟨rfl, hb9⟩
      have R_9 := R_8.keep hb9
      have T_9 := T_8.keep hb9
      have F_9 := F_8.keep hb9
      have X_9 := X_8.keep hb9
      have S_9 := S_8.keep hb9
      have hbw9 := bStep hbw8 hb9
      clear R_8 T_8 F_8 X_8 S_8 hbw8 hb9
      go_wp2_with fail
      go_ret
      exact ⟨rfl, hbw9⟩
    · cases hk3 : fokB f
      · go_wp2_with fail
        refine (specRowsOk_eq hk R_5).mono ?_
        rintro e w6 ⟨rfl, hb6⟩
        have R_6 := R_5.keep hb6
        have T_6 := T_5.keep hb6
        have F_6 := F_5.keep hb6
        have X_6 := X_5.keep hb6
        have hbw6 := bStep hbw5 hb6
        clear R_5 T_5 F_5 X_5 hbw5 hb6
        go_wp2_with fail
        refine (specRowsOk_eq hk2 T_6).mono ?_
        rintro e w7 ⟨rfl, hb7⟩
        have R_7 := R_6.keep hb7
        have T_7 := T_6.keep hb7
        have F_7 := F_6.keep hb7
        have X_7 := X_6.keep hb7
        have hbw7 := bStep hbw6 hb7
        clear R_6 T_6 F_6 X_6 hbw6 hb7
        go_wp2_with fail
        refine (specFrontOk_eq hk3 F_7).mono ?_
        rintro e w8 ⟨rfl, hb8⟩
        have R_8 := R_7.keep hb8
        have T_8 := T_7.keep hb8
        have F_8 := F_7.keep hb8
        have X_8 := X_7.keep hb8
        have hbw8 := bStep hbw7 hb8
        clear R_7 T_7 F_7 X_7 hbw7 hb8
        go_wp2_with fail
        refine (specFlowJoin_k HL.out R_8 T_8).mono ?_
        rintro e w9 ⟨os, rfl, S_9, hb9⟩
        have R_9 := R_8.keep hb9
        have T_9 := T_8.keep hb9
        have F_9 := F_8.keep hb9
        have X_9 := X_8.keep hb9
        have hbw9 := bStep hbw8 hb9
        clear R_8 T_8 F_8 X_8 hbw8 hb9
        go_wp2_with fail
        refine (lwRows_eq (selfR _) X_9 S_9).mono ?_
        rintro e w10 ⟨rfl, hb10⟩
        have R_10 := R_9.keep hb10
        have T_10 := T_9.keep hb10
        have F_10 := F_9.keep hb10
        have X_10 := X_9.keep hb10
        have S_10 := S_9.keep hb10
        have hbw10 := bStep hbw9 hb10
        clear R_9 T_9 F_9 X_9 S_9 hbw9 hb10
        go_wp2_with fail
        go_ret
        exact ⟨rfl, hbw10⟩
      · have m0 : (0 : Int) ≤ (len1 : Int) % 7 := by omega
        have m1 : (len1 : Int) % 7 < 7 := by omega
        go_wp2_with fail
        refine (specRowsOk_eq hk R_5).mono ?_
        rintro e w6 ⟨rfl, hb6⟩
        have R_6 := R_5.keep hb6
        have T_6 := T_5.keep hb6
        have F_6 := F_5.keep hb6
        have X_6 := X_5.keep hb6
        have hbw6 := bStep hbw5 hb6
        clear R_5 T_5 F_5 X_5 hbw5 hb6
        go_wp2_with fail
        refine (specRowsOk_eq hk2 T_6).mono ?_
        rintro e w7 ⟨rfl, hb7⟩
        have R_7 := R_6.keep hb7
        have T_7 := T_6.keep hb7
        have F_7 := F_6.keep hb7
        have X_7 := X_6.keep hb7
        have hbw7 := bStep hbw6 hb7
        clear R_6 T_6 F_6 X_6 hbw6 hb7
        go_wp2_with fail
        refine (specFrontOk_eq hk3 F_7).mono ?_
        rintro e w8 ⟨rfl, hb8⟩
        have R_8 := R_7.keep hb8
        have T_8 := T_7.keep hb8
        have F_8 := F_7.keep hb8
        have X_8 := X_7.keep hb8
        have hbw8 := bStep hbw7 hb8
        clear R_7 T_7 F_7 X_7 hbw7 hb8
        go_wp2_with fail
        generalize hH : (1 + (len1 : Int) % 7) = how at *
        clear hH m0 m1
        obtain ⟨P, hL_P⟩ : ∃ zz, bmoveL a f = zz := ⟨_, rfl⟩
        have HP : Hid (bmoveL a f = P) := hL_P
        clear hL_P
        obtain ⟨P2, hL_P2⟩ : ∃ zz, bmoveL b f = zz := ⟨_, rfl⟩
        have HP2 : Hid (bmoveL b f = P2) := hL_P2
        clear hL_P2
        obtain ⟨Z, hL_Z⟩ : ∃ zz, fjoinL P P2 = zz := ⟨_, rfl⟩
        have HZ : Hid (fjoinL P P2 = Z) := hL_Z
        clear hL_Z
        obtain ⟨E, hL_E⟩ : ∃ zz, feachL a how = zz := ⟨_, rfl⟩
        have HE : Hid (feachL a how = E) := hL_E
        clear hL_E
        obtain ⟨E2, hL_E2⟩ : ∃ zz, feachL P how = zz := ⟨_, rfl⟩
        have HE2 : Hid (feachL P how = E2) := hL_E2
        clear hL_E2
        have ha := hda.abs hk
        have hb' := hdb.abs hk2
        have hl1 := hda.1
        have hl2 := hdb.1
        have HI : Hid (∀ x y : Int, okB x y = true → askedB f x y = true → itemsL L x y = itemsL Z x y) := by
          have e1 := HL.out
          have e2 := HP.out
          have e3 := HP2.out
          have e4 := HZ.out
          subst e1 e2 e3 e4
          exact fun x y hx hc => join_move hk3 hk hk2 hl1 hl2 ha hb' hx hc
        have HI2 : Hid (∀ x y : Int, okB x y = true → askedB f x y = true → itemsL E x y = itemsL E2 x y) := by
          have e2 := HP.out
          have e3 := HE.out
          have e4 := HE2.out
          subst e2 e3 e4
          exact fun x y hx hc => each_move hk3 hk ha hx hc
        refine (implMoveB_k HP.out R_8 F_8).mono ?_
        rintro e w9 ⟨op, rfl, P_9, hb9⟩
        have R_9 := R_8.keep hb9
        have T_9 := T_8.keep hb9
        have F_9 := F_8.keep hb9
        have X_9 := X_8.keep hb9
        have hbw9 := bStep hbw8 hb9
        clear R_8 T_8 F_8 X_8 hbw8 hb9
        go_wp2_with fail
        refine (implMoveB_k HP2.out T_9 F_9).mono ?_
        rintro e w10 ⟨oq, rfl, Q_10, hb10⟩
        have R_10 := R_9.keep hb10
        have T_10 := T_9.keep hb10
        have F_10 := F_9.keep hb10
        have X_10 := X_9.keep hb10
        have P_10 := P_9.keep hb10
        have hbw10 := bStep hbw9 hb10
        clear R_9 T_9 F_9 X_9 P_9 hbw9 hb10
        go_wp2_with fail
        refine (implFlowJoin_k HZ.out P_10 Q_10).mono ?_
        rintro e w11 ⟨oz, rfl, Z_11, hb11⟩
        have R_11 := R_10.keep hb11
        have T_11 := T_10.keep hb11
        have F_11 := F_10.keep hb11
        have X_11 := X_10.keep hb11
        have hbw11 := bStep hbw10 hb11
        clear R_10 T_10 F_10 X_10 P_10 Q_10 hbw10 hb11
        go_wp2_with fail
        refine (lwSame_any _ _ _ L Z f _ X_11 Z_11 F_11 HI.out).mono ?_
        rintro e w12 ⟨rfl, hb12⟩
        have R_12 := R_11.keep hb12
        have T_12 := T_11.keep hb12
        have F_12 := F_11.keep hb12
        have hbw12 := bStep hbw11 hb12
        clear R_11 T_11 F_11 X_11 Z_11 hbw11 hb12
        go_wp2_with fail
        refine (implFlowEach_k HE.out R_12).mono ?_
        rintro e w13 ⟨oe, rfl, E_13, hb13⟩
        have R_13 := R_12.keep hb13
        have T_13 := T_12.keep hb13
        have F_13 := F_12.keep hb13
        have hbw13 := bStep hbw12 hb13
        clear R_12 T_12 F_12 hbw12 hb13
        go_wp2_with fail
        refine (implMoveB_k HP.out R_13 F_13).mono ?_
        rintro e w14 ⟨op2, rfl, P_14, hb14⟩
        have R_14 := R_13.keep hb14
        have T_14 := T_13.keep hb14
        have F_14 := F_13.keep hb14
        have E_14 := E_13.keep hb14
        have hbw14 := bStep hbw13 hb14
        clear R_13 T_13 F_13 E_13 hbw13 hb14
        go_wp2_with fail
        refine (implFlowEach_k HE2.out P_14).mono ?_
        rintro e w15 ⟨oe2, rfl, V_15, hb15⟩
        have R_15 := R_14.keep hb15
        have T_15 := T_14.keep hb15
        have F_15 := F_14.keep hb15
        have E_15 := E_14.keep hb15
        have hbw15 := bStep hbw14 hb15
        clear R_14 T_14 F_14 E_14 P_14 hbw14 hb15
        go_wp2_with fail
        refine (lwSame_any _ _ _ E E2 f _ E_15 V_15 F_15 HI2.out).mono ?_
        rintro e w16 ⟨rfl, hb16⟩
        have R_16 := R_15.keep hb16
        have T_16 := T_15.keep hb16
        have F_16 := F_15.keep hb16
        have E_16 := E_15.keep hb16
        have V_16 := V_15.keep hb16
        have hbw16 := bStep hbw15 hb16
        clear R_15 T_15 F_15 E_15 V_15 hbw15 hb16
        go_wp2_with fail
        go_ret
        exact ⟨rfl, hbw16⟩
end FnFlowMove
namespace RowFnFlowMove
theorem own : ownKnob Tryz.prog.godebug = none := by kernel_rfl
set_option maxRecDepth 100000 in
theorem lifted (os : Os) (started : os.Started) (H : Type) (enc : TypeId × Value → H) :
    ReturnsInHanded {} Tryz.checked os 5 .any (Rows.fnFlowMoveSpec.pre6 enc Tryz.prog Tryz.f5 Rows.fnFlowMoveRow.domain false) (Rows.fnFlowMoveSpec.post enc Tryz.prog Tryz.f5 false true false false) := by
  refine returnsInHanded_of_change (C := Tryz.checked) own started (by kernel_rfl) Tryz.func5
    (ChangeSpec.witness6 (enc := enc) (C := Tryz.checked) false ⟨#[], #[.slice none 0 0, .slice none 0 0], []⟩ 8 (by kernel_rfl) (by kernel_rfl) (by kernel_rfl) (by kernel_rfl)) ?_
  intro W base args ds gs before hval0 hW hcnd _
  have hval : ∀ (j : Nat) t v, Tryz.f5.params[j]? = some t → args[j]? = some v → Value.okWide Tryz.prog W .any base t v := hval0
  have hW' := hW
  obtain ⟨p, q, hA0, hV, rfl, hfz, hnd⟩ := hW
  have hA : DataW.TrodAll enc Tryz.prog W 0 (fun _ => true) true Tryz.f5.params.toList args.toList ds p := hA0
  rw [Tryz.params5] at hA hval
  obtain ⟨v0, vs0, d0, ds0, p0, q0, hargs, rfl, rfl, h0, r0⟩ := trodAll_cons hA
  obtain ⟨v1, vs1, d1, ds1, p1, q1, rfl, rfl, rfl, h1, r1⟩ := trodAll_cons r0
  obtain ⟨rfl, rfl, rfl⟩ := trodAll_nil r1
  obtain rfl : args = #[v0, v1] := by cases args; simp_all
  obtain ⟨rfl, rfl⟩ := trodVars_none hV
  obtain ⟨a0, len0, cap0, rfl⟩ := okWide_slice Tryz.underlying22 (hval 0 22 v0 rfl rfl)
  have k0 := h0
  have lt0 : ∀ x ∈ p0, x.block < W.heap.size := by obtain ⟨m, hm⟩ := k0; exact DataW.trod_lt m _ _ _ hm
  have w0 : Src W (.slice a0 len0 cap0) len0 := by
    obtain ⟨fuel, hf⟩ := h0
    rcases open_ints Tryz.underlying22 Tryz.underlying5 (by kernel_rfl) hf with ⟨hcs, _⟩ | ⟨x, l, c, zs, hcs, _, hl, hm, hz, _, hcell, hwz⟩
    · simp [Value.cells] at hcs
      obtain ⟨rfl, rfl, rfl⟩ := hcs
      exact Src.nil _
    · simp [Value.cells] at hcs
      obtain ⟨rfl, rfl, rfl⟩ := hcs
      exact Src.of_row hl hm (by simpa using hz) hcell hwz
  obtain ⟨a1, len1, cap1, rfl⟩ := okWide_slice Tryz.underlying22 (hval 1 22 v1 rfl rfl)
  have k1 := h1
  have lt1 : ∀ x ∈ p1, x.block < W.heap.size := by obtain ⟨m, hm⟩ := k1; exact DataW.trod_lt m _ _ _ hm
  have w1 : Src W (.slice a1 len1 cap1) len1 := by
    obtain ⟨fuel, hf⟩ := h1
    rcases open_ints Tryz.underlying22 Tryz.underlying5 (by kernel_rfl) hf with ⟨hcs, _⟩ | ⟨x, l, c, zs, hcs, _, hl, hm, hz, _, hcell, hwz⟩
    · simp [Value.cells] at hcs
      obtain ⟨rfl, rfl, rfl⟩ := hcs
      exact Src.nil _
    · simp [Value.cells] at hcs
      obtain ⟨rfl, rfl, rfl⟩ := hcs
      exact Src.of_row hl hm (by simpa using hz) hcell hwz
  clear hA0 hval0
  refine (FnFlowMove.walk a0 len0 cap0 a1 len1 cap1 W w0 w1).mono fun e W' ⟨he, bel⟩ => ?_
  subst he
  exact ⟨_, rfl, _, _, _, [], _, [], hW', trodAll_mk1 (shut_bool Tryz.underlying4 _), (trodAll_cons_mk (Below.trod pfLaid (by kernel_rfl) (of_decide_eq_true (by kernel_rfl)) k0 bel lt0) (trodAll_cons_mk (Below.trod pfLaid (by kernel_rfl) (of_decide_eq_true (by kernel_rfl)) k1 bel lt1) trodAll_mk0)), rfl, bel.frame _, fun h => by cases h⟩
set_option maxHeartbeats 4000000 in
theorem closed : joinedFacts Tryz.prog 5 Tryz.f5 Rows.fnFlowMoveSpec Rows.fnFlowMoveRow = true := by
  unfold joinedFacts
  exact (andB (andB (andB (andB (andB (andB (andB (andB (andB (andB (andB (andB (andB (andB (andB (andB (andB (andB (andB (andB (andB (andB (andB (andB (andB (andB (andB (andB (andB (andB (andB (by as_aux_lemma => kernel_rfl) pfLaid) pfRowed) (by as_aux_lemma => kernel_rfl)) (by as_aux_lemma => kernel_rfl)) (by as_aux_lemma => kernel_rfl)) (by as_aux_lemma => kernel_rfl)) (by as_aux_lemma => kernel_rfl)) (by as_aux_lemma => kernel_rfl)) (by as_aux_lemma => kernel_rfl)) (by as_aux_lemma => kernel_rfl)) (by as_aux_lemma => kernel_rfl)) (by as_aux_lemma => kernel_rfl)) (by as_aux_lemma => kernel_rfl)) (by as_aux_lemma => kernel_rfl)) (by as_aux_lemma => kernel_rfl)) (by as_aux_lemma => kernel_rfl)) (by as_aux_lemma => kernel_rfl)) (by as_aux_lemma => kernel_rfl)) (by as_aux_lemma => kernel_rfl)) (by as_aux_lemma => kernel_rfl)) (by as_aux_lemma => kernel_rfl)) (by as_aux_lemma => kernel_rfl)) (by as_aux_lemma => kernel_rfl)) pfHeard) pfEnter) (pfLiftB rfl)) (pfMakeB rfl)) (by as_aux_lemma => kernel_rfl)) (by as_aux_lemma => kernel_rfl)) (by as_aux_lemma => kernel_rfl)) (by as_aux_lemma => kernel_rfl))
theorem over : Rows.fnFlowMoveRow.holds Tryz.pinned (OpenSpec.ofChange Rows.fnFlowMoveSpec) :=
  OpenClaim.holds_of_wide 5 Tryz.f5 rfl rfl rfl rfl rfl rfl rfl ⟨rfl, rfl, rfl, rfl, rfl⟩ rfl rfl rfl rfl rfl (by kernel_rfl) Tryz.func5 closed
    (of_decide_eq_true (by kernel_rfl)) (by unfold Func.isWrapper; first | (rw [if_pos (by decide +kernel)]; kernel_rfl) | (rw [if_neg (by decide +kernel)]; exact ⟨rfl, rfl⟩))
    (fun os started H enc _ => lifted os started H enc)
end RowFnFlowMove
theorem fnFlowMove_holds : Rows.FnFlowMoveSaid := RowFnFlowMove.over
end Go.Proofs.YtpjmkejojenflaaGreat
