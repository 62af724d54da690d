/- For all bytes, twice: SetJoin of the program makes of the items that they draw what the model makes of them, and of two together and a third what is made of each, together, on either side; the arguments read afterwards as before. No condition. -/
import Derived.Test.YtjmkcdlkmkhaiaaPf
import Derived.Test.YtjmkcdlkmkhaiaaGj4
namespace Go.Proofs.Ytjmkcdlkmkhaiaa
open Go.ChangeShapes Go.WideShapes Go.ChangeAt Go.RowKit Go.Joins

namespace FnSetJoin
set_option maxRecDepth 100000 in
set_option maxHeartbeats 8000000 in
theorem walk (x0 : Option Addr) (len0 cap0 : Nat) (x1 : Option Addr) (len1 cap1 : Nat) (w : World) (h0 : Src w (.slice x0 len0 cap0) len0) (h1 : Src w (.slice x1 len1 cap1) len1) :
    Calls Try.prog 3 #[.slice x0 len0 cap0, .slice x1 len1 cap1] w fun e w' => e = .returned (.bool true) ∧ Below w.heap.size w w' := by
  by_cases g0 : (1048576 : Int) < (len0 : Int)
  · go_enter Try.func3, Try.ntmps3
    go_wp2_with fail
    go_ret
    exact ⟨rfl, Below.refl _ _⟩
  by_cases g1 : (1048576 : Int) < (len1 : Int)
  · go_enter Try.func3, Try.ntmps3
    go_wp2_with fail
    go_ret
    exact ⟨rfl, Below.refl _ _⟩
  go_enter Try.func3, Try.ntmps3
  go_wp2_with fail
  refine (drawSetJoin_any _ _ _ _ h0).mono ?_
  rintro e w1 ⟨oa, ob, s, t, rfl, hds, hdt, R_1, T_1, hb1⟩
  have h1_1 := h1.keep hb1
  have hbw1 := hb1
  clear h0 h1 hb1
  go_wp2_with fail
  refine (drawSetJoin_any _ _ _ _ h1_1).mono ?_
  rintro e w2 ⟨oc, od, u, u', rfl, hdu, hdu', U_2, U2_2, hb2⟩
  have R_2 := R_1.keep hb2
  have T_2 := T_1.keep hb2
  have hbw2 := bStep hbw1 hb2
  clear h1_1 R_1 T_1 hbw1 hb2
  obtain ⟨hls, has⟩ := hds
  obtain ⟨hlt', hat⟩ := hdt
  obtain ⟨hlu, hau⟩ := hdu
  obtain ⟨L, hL_L⟩ : ∃ zz, joinS s t = zz := ⟨_, rfl⟩
  have HL : Hid (joinS s t = L) := hL_L
  clear hL_L
  go_wp2_with fail
  refine (implSetJoin_k HL.out R_2 T_2 (by omega) (by omega)).mono ?_
  rintro e w3 ⟨ox, rfl, X_3, hb3⟩
  have R_3 := R_2.keep hb3
  have T_3 := T_2.keep hb3
  have U_3 := U_2.keep hb3
  have hbw3 := bStep hbw2 hb3
  clear R_2 T_2 U_2 U2_2 hbw2 hb3
  go_wp2_with fail
  refine (specSetJoin_k HL.out R_3 T_3 (by omega) (by omega)).mono ?_
  rintro e w4 ⟨oz, rfl, S_4, hb4⟩
  have R_4 := R_3.keep hb4
  have T_4 := T_3.keep hb4
  have U_4 := U_3.keep hb4
  have X_4 := X_3.keep hb4
  have hbw4 := bStep hbw3 hb4
  clear R_3 T_3 U_3 X_3 hbw3 hb4
  go_wp2_with fail
  refine (lwItems_eq (selfI _) X_4 S_4).mono ?_
  rintro e w5 ⟨rfl, hb5⟩
  have R_5 := R_4.keep hb5
  have T_5 := T_4.keep hb5
  have U_5 := U_4.keep hb5
  have X_5 := X_4.keep hb5
  have hbw5 := bStep hbw4 hb5
  clear R_4 T_4 U_4 X_4 S_4 hbw4 hb5
  cases hk : sokB s
  · go_wp2_with fail
    refine (specSetOk_eq hk R_5).mono ?_
    rintro e w6 ⟨rfl, hb6⟩
    have R_6 := R_5.keep hb6
    have T_6 := T_5.keep hb6
    have U_6 := U_5.keep hb6
    have X_6 := X_5.keep hb6
    have hbw6 := bStep hbw5 hb6
    clear R_5 T_5 U_5 X_5 hbw5 hb6
    go_wp2_with fail
    refine (specSetJoin_k HL.out R_6 T_6 (by omega) (by omega)).mono ?_
    rintro e w7 ⟨oz, rfl, S_7, hb7⟩
    have R_7 := R_6.keep hb7
    have T_7 := T_6.keep hb7
    have U_7 := U_6.keep hb7
    have X_7 := X_6.keep hb7
    have hbw7 := bStep hbw6 hb7
    clear R_6 T_6 U_6 X_6 hbw6 hb7
    go_wp2_with fail
    refine (lwItems_eq (selfI _) X_7 S_7).mono ?_
    rintro e w8 ⟨rfl, hb8⟩
    have R_8 := R_7.keep hb8
    have T_8 := T_7.keep hb8
    have U_8 := U_7.keep hb8
    have X_8 := X_7.keep hb8
    have S_8 := S_7.keep hb8
    have hbw8 := bStep hbw7 hb8
    clear R_7 T_7 U_7 X_7 S_7 hbw7 hb8
    go_wp2_with fail
    go_ret
    exact ⟨rfl, hbw8⟩
  · cases hk2 : sokB t
    · go_wp2_with fail
      refine (specSetOk_eq hk R_5).mono ?_
      rintro e w6 ⟨rfl, hb6⟩
      have R_6 := R_5.keep hb6
      have T_6 := T_5.keep hb6
      have U_6 := U_5.keep hb6
      have X_6 := X_5.keep hb6
      have hbw6 := bStep hbw5 hb6
      clear R_5 T_5 U_5 X_5 hbw5 hb6
      go_wp2_with fail
      refine (specSetOk_eq hk2 T_6).mono ?_
      rintro e w7 ⟨rfl, hb7⟩
      have R_7 := R_6.keep hb7
      have T_7 := T_6.keep hb7
      have U_7 := U_6.keep hb7
      have X_7 := X_6.keep hb7
      have hbw7 := bStep hbw6 hb7
      clear R_6 T_6 U_6 X_6 hbw6 hb7
      go_wp2_with fail
      refine (specSetJoin_k HL.out R_7 T_7 (by omega) (by omega)).mono ?_
      rintro e w8 ⟨oz, rfl, S_8, hb8⟩
      have R_8 := R_7.keep hb8
      have T_8 := T_7.keep hb8
      have U_8 := U_7.keep hb8
      have X_8 := X_7.keep hb8
      have hbw8 := bStep hbw7 hb8
      clear R_7 T_7 U_7 X_7 hbw7 hb8
      go_wp2_with fail
      refine (lwItems_eq (selfI _) X_8 S_8).mono ?_
      rintro e w9 ⟨rfl, hb9⟩
      have R_9 := R_8.keep hb9
      have T_9 := T_8.keep hb9
      have U_9 := U_8.keep hb9
      have X_9 := X_8.keep hb9
      have S_9 := S_8.keep hb9
      have hbw9 := bStep hbw8 hb9
      clear R_8 T_8 U_8 X_8 S_8 hbw8 hb9
      go_wp2_with fail
      go_ret
      exact ⟨rfl, hbw9⟩
    · cases hk3 : sokB u
      · go_wp2_with fail
        refine (specSetOk_eq hk R_5).mono ?_
        rintro e w6 ⟨rfl, hb6⟩
        have R_6 := R_5.keep hb6
        have T_6 := T_5.keep hb6
        have U_6 := U_5.keep hb6
        have X_6 := X_5.keep hb6
        have hbw6 := bStep hbw5 hb6
        clear R_5 T_5 U_5 X_5 hbw5 hb6
        go_wp2_with fail
        refine (specSetOk_eq hk2 T_6).mono ?_
        rintro e w7 ⟨rfl, hb7⟩
        have R_7 := R_6.keep hb7
        have T_7 := T_6.keep hb7
        have U_7 := U_6.keep hb7
        have X_7 := X_6.keep hb7
        have hbw7 := bStep hbw6 hb7
        clear R_6 T_6 U_6 X_6 hbw6 hb7
        go_wp2_with fail
        refine (specSetOk_eq hk3 U_7).mono ?_
        rintro e w8 ⟨rfl, hb8⟩
        have R_8 := R_7.keep hb8
        have T_8 := T_7.keep hb8
        have U_8 := U_7.keep hb8
        have X_8 := X_7.keep hb8
        have hbw8 := bStep hbw7 hb8
        clear R_7 T_7 U_7 X_7 hbw7 hb8
        go_wp2_with fail
        refine (specSetJoin_k HL.out R_8 T_8 (by omega) (by omega)).mono ?_
        rintro e w9 ⟨oz, rfl, S_9, hb9⟩
        have R_9 := R_8.keep hb9
        have T_9 := T_8.keep hb9
        have U_9 := U_8.keep hb9
        have X_9 := X_8.keep hb9
        have hbw9 := bStep hbw8 hb9
        clear R_8 T_8 U_8 X_8 hbw8 hb9
        go_wp2_with fail
        refine (lwItems_eq (selfI _) X_9 S_9).mono ?_
        rintro e w10 ⟨rfl, hb10⟩
        have R_10 := R_9.keep hb10
        have T_10 := T_9.keep hb10
        have U_10 := U_9.keep hb10
        have X_10 := X_9.keep hb10
        have S_10 := S_9.keep hb10
        have hbw10 := bStep hbw9 hb10
        clear R_9 T_9 U_9 X_9 S_9 hbw9 hb10
        go_wp2_with fail
        go_ret
        exact ⟨rfl, hbw10⟩
      · obtain ⟨P, hL_P⟩ : ∃ zz, bothS s u = zz := ⟨_, rfl⟩
        have HP : Hid (bothS s u = P) := hL_P
        clear hL_P
        obtain ⟨Z, hL_Z⟩ : ∃ zz, joinS P t = zz := ⟨_, rfl⟩
        have HZ : Hid (joinS P t = Z) := hL_Z
        clear hL_Z
        obtain ⟨M, hL_M⟩ : ∃ zz, joinS u t = zz := ⟨_, rfl⟩
        have HM : Hid (joinS u t = M) := hL_M
        clear hL_M
        obtain ⟨P2, hL_P2⟩ : ∃ zz, bothS t u = zz := ⟨_, rfl⟩
        have HP2 : Hid (bothS t u = P2) := hL_P2
        clear hL_P2
        obtain ⟨Z2, hL_Z2⟩ : ∃ zz, joinS s P2 = zz := ⟨_, rfl⟩
        have HZ2 : Hid (joinS s P2 = Z2) := hL_Z2
        clear hL_Z2
        obtain ⟨M2, hL_M2⟩ : ∃ zz, joinS s u = zz := ⟨_, rfl⟩
        have HM2 : Hid (joinS s u = M2) := hL_M2
        clear hL_M2
        have HB : Hid (bothS L M = Z) := by
          have e1 := HL.out
          have e2 := HP.out
          have e3 := HZ.out
          have e4 := HM.out
          subst e1 e2 e3 e4
          exact (join_left hk hk3 hk2 hls hlu hlt' (by omega) (by omega) (by omega)).symm
        have HB2 : Hid (bothS L M2 = Z2) := by
          have e1 := HL.out
          have e2 := HP2.out
          have e3 := HZ2.out
          have e4 := HM2.out
          subst e1 e2 e3 e4
          exact (join_right hk hk3 hk2 hls hlu hlt' (by omega) (by omega) (by omega)).symm
        have aP : absum P ≤ 50 := by have e2 := HP.out; subst e2; have := bothS_abs s u; omega
        have aP2 : absum P2 ≤ 50 := by have e2 := HP2.out; subst e2; have := bothS_abs t u; omega
        go_wp2_with fail
        refine (specSetOk_eq hk R_5).mono ?_
        rintro e w6 ⟨rfl, hb6⟩
        have R_6 := R_5.keep hb6
        have T_6 := T_5.keep hb6
        have U_6 := U_5.keep hb6
        have X_6 := X_5.keep hb6
        have hbw6 := bStep hbw5 hb6
        clear R_5 T_5 U_5 X_5 hbw5 hb6
        go_wp2_with fail
        refine (specSetOk_eq hk2 T_6).mono ?_
        rintro e w7 ⟨rfl, hb7⟩
        have R_7 := R_6.keep hb7
        have T_7 := T_6.keep hb7
        have U_7 := U_6.keep hb7
        have X_7 := X_6.keep hb7
        have hbw7 := bStep hbw6 hb7
        clear R_6 T_6 U_6 X_6 hbw6 hb7
        go_wp2_with fail
        refine (specSetOk_eq hk3 U_7).mono ?_
        rintro e w8 ⟨rfl, hb8⟩
        have R_8 := R_7.keep hb8
        have T_8 := T_7.keep hb8
        have U_8 := U_7.keep hb8
        have X_8 := X_7.keep hb8
        have hbw8 := bStep hbw7 hb8
        clear R_7 T_7 U_7 X_7 hbw7 hb8
        go_wp2_with fail
        refine (implSetBoth_k HP.out R_8 U_8).mono ?_
        rintro e w9 ⟨op, rfl, P_9, hb9⟩
        have R_9 := R_8.keep hb9
        have T_9 := T_8.keep hb9
        have U_9 := U_8.keep hb9
        have X_9 := X_8.keep hb9
        have hbw9 := bStep hbw8 hb9
        clear R_8 T_8 U_8 X_8 hbw8 hb9
        go_wp2_with fail
        refine (implSetJoin_k HZ.out P_9 T_9 (by omega) (by omega)).mono ?_
        rintro e w10 ⟨oq, rfl, Z_10, hb10⟩
        have R_10 := R_9.keep hb10
        have T_10 := T_9.keep hb10
        have U_10 := U_9.keep hb10
        have X_10 := X_9.keep hb10
        have hbw10 := bStep hbw9 hb10
        clear R_9 T_9 U_9 X_9 P_9 hbw9 hb10
        go_wp2_with fail
        refine (implSetJoin_k HM.out U_10 T_10 (by omega) (by omega)).mono ?_
        rintro e w11 ⟨om, rfl, M_11, hb11⟩
        have R_11 := R_10.keep hb11
        have T_11 := T_10.keep hb11
        have U_11 := U_10.keep hb11
        have X_11 := X_10.keep hb11
        have Z_11 := Z_10.keep hb11
        have hbw11 := bStep hbw10 hb11
        clear R_10 T_10 U_10 X_10 Z_10 hbw10 hb11
        go_wp2_with fail
        refine (implSetBoth_k HB.out X_11 M_11).mono ?_
        rintro e w12 ⟨ov, rfl, V_12, hb12⟩
        have R_12 := R_11.keep hb12
        have T_12 := T_11.keep hb12
        have U_12 := U_11.keep hb12
        have X_12 := X_11.keep hb12
        have Z_12 := Z_11.keep hb12
        have hbw12 := bStep hbw11 hb12
        clear R_11 T_11 U_11 X_11 Z_11 M_11 hbw11 hb12
        go_wp2_with fail
        refine (lwItems_eq (selfI _) Z_12 V_12).mono ?_
        rintro e w13 ⟨rfl, hb13⟩
        have R_13 := R_12.keep hb13
        have T_13 := T_12.keep hb13
        have U_13 := U_12.keep hb13
        have X_13 := X_12.keep hb13
        have hbw13 := bStep hbw12 hb13
        clear R_12 T_12 U_12 X_12 Z_12 V_12 hbw12 hb13
        go_wp2_with fail
        refine (implSetBoth_k HP2.out T_13 U_13).mono ?_
        rintro e w14 ⟨op, rfl, P_14, hb14⟩
        have R_14 := R_13.keep hb14
        have T_14 := T_13.keep hb14
        have U_14 := U_13.keep hb14
        have X_14 := X_13.keep hb14
        have hbw14 := bStep hbw13 hb14
        clear R_13 T_13 U_13 X_13 hbw13 hb14
        go_wp2_with fail
        refine (implSetJoin_k HZ2.out R_14 P_14 (by omega) (by omega)).mono ?_
        rintro e w15 ⟨oq, rfl, Z_15, hb15⟩
        have R_15 := R_14.keep hb15
        have T_15 := T_14.keep hb15
        have U_15 := U_14.keep hb15
        have X_15 := X_14.keep hb15
        have hbw15 := bStep hbw14 hb15
        clear R_14 T_14 U_14 X_14 P_14 hbw14 hb15
        go_wp2_with fail
        refine (implSetJoin_k HM2.out R_15 U_15 (by omega) (by omega)).mono ?_
        rintro e w16 ⟨om, rfl, M_16, hb16⟩
        have R_16 := R_15.keep hb16
        have T_16 := T_15.keep hb16
        have U_16 := U_15.keep hb16
        have X_16 := X_15.keep hb16
        have Z_16 := Z_15.keep hb16
        have hbw16 := bStep hbw15 hb16
        clear R_15 T_15 U_15 X_15 Z_15 hbw15 hb16
        go_wp2_with fail
        refine (implSetBoth_k HB2.out X_16 M_16).mono ?_
        rintro e w17 ⟨ov, rfl, V_17, hb17⟩
        have R_17 := R_16.keep hb17
        have T_17 := T_16.keep hb17
        have U_17 := U_16.keep hb17
        have X_17 := X_16.keep hb17
        have Z_17 := Z_16.keep hb17
        have hbw17 := bStep hbw16 hb17
        clear R_16 T_16 U_16 X_16 Z_16 M_16 hbw16 hb17
        go_wp2_with fail
        refine (lwItems_eq (selfI _) Z_17 V_17).mono ?_
        rintro e w18 ⟨rfl, hb18⟩
        have R_18 := R_17.keep hb18
        have T_18 := T_17.keep hb18
        have U_18 := U_17.keep hb18
        have X_18 := X_17.keep hb18
        have Z_18 := Z_17.keep hb18
        have V_18 := V_17.keep hb18
        have hbw18 := bStep hbw17 hb18
        clear R_17 T_17 U_17 X_17 Z_17 V_17 hbw17 hb18
        go_wp2_with fail
        go_ret
        exact ⟨rfl, hbw18⟩
end FnSetJoin
namespace RowFnSetJoin
theorem own : ownKnob Try.prog.godebug = none := by kernel_rfl
set_option maxRecDepth 100000 in
theorem lifted (os : Os) (started : os.Started) (H : Type) (enc : TypeId × Value → H) :
    ReturnsInHanded {} Try.checked os 3 .any (Rows.fnSetJoinSpec.pre6 enc Try.prog Try.f3 Rows.fnSetJoinRow.domain false) (Rows.fnSetJoinSpec.post enc Try.prog Try.f3 false true false false) := by
  refine returnsInHanded_of_change (C := Try.checked) own started (by kernel_rfl) Try.func3
    (ChangeSpec.witness6 (enc := enc) (C := Try.checked) false ⟨#[], #[.slice none 0 0, .slice none 0 0], []⟩ 8 (by kernel_rfl) (by kernel_rfl) (by kernel_rfl) (by kernel_rfl)) ?_
  intro W base args ds gs before hval0 hW hcnd _
  have hval : ∀ (j : Nat) t v, Try.f3.params[j]? = some t → args[j]? = some v → Value.okWide Try.prog W .any base t v := hval0
  have hW' := hW
  obtain ⟨p, q, hA0, hV, rfl, hfz, hnd⟩ := hW
  have hA : DataW.TrodAll enc Try.prog W 0 (fun _ => true) true Try.f3.params.toList args.toList ds p := hA0
  rw [Try.params3] at hA hval
  obtain ⟨v0, vs0, d0, ds0, p0, q0, hargs, rfl, rfl, h0, r0⟩ := trodAll_cons hA
  obtain ⟨v1, vs1, d1, ds1, p1, q1, rfl, rfl, rfl, h1, r1⟩ := trodAll_cons r0
  obtain ⟨rfl, rfl, rfl⟩ := trodAll_nil r1
  obtain rfl : args = #[v0, v1] := by cases args; simp_all
  obtain ⟨rfl, rfl⟩ := trodVars_none hV
  obtain ⟨a0, len0, cap0, rfl⟩ := okWide_slice Try.underlying22 (hval 0 22 v0 rfl rfl)
  have k0 := h0
  have lt0 : ∀ x ∈ p0, x.block < W.heap.size := by obtain ⟨m, hm⟩ := k0; exact DataW.trod_lt m _ _ _ hm
  have w0 : Src W (.slice a0 len0 cap0) len0 := by
    obtain ⟨fuel, hf⟩ := h0
    rcases open_ints Try.underlying22 Try.underlying5 (by kernel_rfl) hf with ⟨hcs, _⟩ | ⟨x, l, c, zs, hcs, _, hl, hm, hz, _, hcell, hwz⟩
    · simp [Value.cells] at hcs
      obtain ⟨rfl, rfl, rfl⟩ := hcs
      exact Src.nil _
    · simp [Value.cells] at hcs
      obtain ⟨rfl, rfl, rfl⟩ := hcs
      exact Src.of_row hl hm (by simpa using hz) hcell hwz
  obtain ⟨a1, len1, cap1, rfl⟩ := okWide_slice Try.underlying22 (hval 1 22 v1 rfl rfl)
  have k1 := h1
  have lt1 : ∀ x ∈ p1, x.block < W.heap.size := by obtain ⟨m, hm⟩ := k1; exact DataW.trod_lt m _ _ _ hm
  have w1 : Src W (.slice a1 len1 cap1) len1 := by
    obtain ⟨fuel, hf⟩ := h1
    rcases open_ints Try.underlying22 Try.underlying5 (by kernel_rfl) hf with ⟨hcs, _⟩ | ⟨x, l, c, zs, hcs, _, hl, hm, hz, _, hcell, hwz⟩
    · simp [Value.cells] at hcs
      obtain ⟨rfl, rfl, rfl⟩ := hcs
      exact Src.nil _
    · simp [Value.cells] at hcs
      obtain ⟨rfl, rfl, rfl⟩ := hcs
      exact Src.of_row hl hm (by simpa using hz) hcell hwz
  clear hA0 hval0
  refine (FnSetJoin.walk a0 len0 cap0 a1 len1 cap1 W w0 w1).mono fun e W' ⟨he, bel⟩ => ?_
  subst he
  exact ⟨_, rfl, _, _, _, [], _, [], hW', trodAll_mk1 (shut_bool Try.underlying4 _), (trodAll_cons_mk (Below.trod pfLaid (by kernel_rfl) (of_decide_eq_true (by kernel_rfl)) k0 bel lt0) (trodAll_cons_mk (Below.trod pfLaid (by kernel_rfl) (of_decide_eq_true (by kernel_rfl)) k1 bel lt1) trodAll_mk0)), rfl, bel.frame _, fun h => by cases h⟩
set_option maxHeartbeats 4000000 in
theorem closed : joinedFacts Try.prog 3 Try.f3 Rows.fnSetJoinSpec Rows.fnSetJoinRow = true := by
  unfold joinedFacts
  exact (andB (andB (andB (andB (andB (andB (andB (andB (andB (andB (andB (andB (andB (andB (andB (andB (andB (andB (andB (andB (andB (andB (andB (andB (andB (andB (andB (andB (andB (andB (andB (by as_aux_lemma => kernel_rfl) pfLaid) pfRowed) (by as_aux_lemma => kernel_rfl)) (by as_aux_lemma => kernel_rfl)) (by as_aux_lemma => kernel_rfl)) (by as_aux_lemma => kernel_rfl)) (by as_aux_lemma => kernel_rfl)) (by as_aux_lemma => kernel_rfl)) (by as_aux_lemma => kernel_rfl)) (by as_aux_lemma => kernel_rfl)) (by as_aux_lemma => kernel_rfl)) (by as_aux_lemma => kernel_rfl)) (by as_aux_lemma => kernel_rfl)) (by as_aux_lemma => kernel_rfl)) (by as_aux_lemma => kernel_rfl)) (by as_aux_lemma => kernel_rfl)) (by as_aux_lemma => kernel_rfl)) (by as_aux_lemma => kernel_rfl)) (by as_aux_lemma => kernel_rfl)) (by as_aux_lemma => kernel_rfl)) (by as_aux_lemma => kernel_rfl)) (by as_aux_lemma => kernel_rfl)) (by as_aux_lemma => kernel_rfl)) pfHeard) pfEnter) (pfLiftB rfl)) (pfMakeB rfl)) (by as_aux_lemma => kernel_rfl)) (by as_aux_lemma => kernel_rfl)) (by as_aux_lemma => kernel_rfl)) (by as_aux_lemma => kernel_rfl))
theorem over : Rows.fnSetJoinRow.holds Try.pinned (OpenSpec.ofChange Rows.fnSetJoinSpec) :=
  OpenClaim.holds_of_wide 3 Try.f3 rfl rfl rfl rfl rfl rfl rfl ⟨rfl, rfl, rfl, rfl, rfl⟩ rfl rfl rfl rfl rfl (by kernel_rfl) Try.func3 closed
    (of_decide_eq_true (by kernel_rfl)) (by unfold Func.isWrapper; first | (rw [if_pos (by decide +kernel)]; kernel_rfl) | (rw [if_neg (by decide +kernel)]; exact ⟨rfl, rfl⟩))
    (fun os started H enc _ => lifted os started H enc)
end RowFnSetJoin
theorem fnSetJoin_holds : Rows.FnSetJoinSaid := RowFnSetJoin.over
end Go.Proofs.Ytjmkcdlkmkhaiaa
