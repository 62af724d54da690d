/- For all bytes: SetJoin of the program makes of the items that they draw what the model makes of them, and of what is taken away, on either side, what is taken away of that; the argument reads afterwards as before. No condition. -/
import Derived.Test.YtjmkcdlkmkhaiaaPf
import Derived.Test.YtjmkcdlkmkhaiaaGj4
namespace Go.Proofs.Ytjmkcdlkmkhaiaa
open Go.ChangeShapes Go.WideShapes Go.ChangeAt Go.RowKit Go.Joins

namespace FnSetJoinLess
set_option maxRecDepth 100000 in
set_option maxHeartbeats 8000000 in
theorem walk (x0 : Option Addr) (len0 cap0 : Nat) (w : World) (h0 : Src w (.slice x0 len0 cap0) len0) :
    Calls Try.prog 4 #[.slice x0 len0 cap0] w fun e w' => e = .returned (.bool true) ∧ Below w.heap.size w w' := by
  by_cases g0 : (1048576 : Int) < (len0 : Int)
  · go_enter Try.func4, Try.ntmps4
    go_wp2_with fail
    go_ret
    exact ⟨rfl, Below.refl _ _⟩
  go_enter Try.func4, Try.ntmps4
  go_wp2_with fail
  refine (drawSetJoin_any _ _ _ _ h0).mono ?_
  rintro e w1 ⟨oa, ob, s, t, rfl, hds, hdt, R_1, T_1, hb1⟩
  have hbw1 := hb1
  clear h0 hb1
  obtain ⟨hls, has⟩ := hds
  obtain ⟨hlt', hat⟩ := hdt
  obtain ⟨L, hL_L⟩ : ∃ zz, joinS s t = zz := ⟨_, rfl⟩
  have HL : Hid (joinS s t = L) := hL_L
  clear hL_L
  go_wp2_with fail
  refine (implSetJoin_k HL.out R_1 T_1 (by omega) (by omega)).mono ?_
  rintro e w2 ⟨ox, rfl, X_2, hb2⟩
  have R_2 := R_1.keep hb2
  have T_2 := T_1.keep hb2
  have hbw2 := bStep hbw1 hb2
  clear R_1 T_1 hbw1 hb2
  go_wp2_with fail
  refine (specSetJoin_k HL.out R_2 T_2 (by omega) (by omega)).mono ?_
  rintro e w3 ⟨oz, rfl, S_3, hb3⟩
  have R_3 := R_2.keep hb3
  have T_3 := T_2.keep hb3
  have X_3 := X_2.keep hb3
  have hbw3 := bStep hbw2 hb3
  clear R_2 T_2 X_2 hbw2 hb3
  go_wp2_with fail
  refine (lwItems_eq (selfI _) X_3 S_3).mono ?_
  rintro e w4 ⟨rfl, hb4⟩
  have R_4 := R_3.keep hb4
  have T_4 := T_3.keep hb4
  have X_4 := X_3.keep hb4
  have hbw4 := bStep hbw3 hb4
  clear R_3 T_3 X_3 S_3 hbw3 hb4
  cases hk : sokB s
  · go_wp2_with fail
    refine (specSetOk_eq hk R_4).mono ?_
    rintro e w5 ⟨rfl, hb5⟩
    have R_5 := R_4.keep hb5
    have T_5 := T_4.keep hb5
    have X_5 := X_4.keep hb5
    have hbw5 := bStep hbw4 hb5
    clear R_4 T_4 X_4 hbw4 hb5
    go_wp2_with fail
    refine (specSetJoin_k HL.out R_5 T_5 (by omega) (by omega)).mono ?_
    rintro e w6 ⟨oz, rfl, S_6, hb6⟩
    have R_6 := R_5.keep hb6
    have T_6 := T_5.keep hb6
    have X_6 := X_5.keep hb6
    have hbw6 := bStep hbw5 hb6
    clear R_5 T_5 X_5 hbw5 hb6
    go_wp2_with fail
    refine (lwItems_eq (selfI _) X_6 S_6).mono ?_
    rintro e w7 ⟨rfl, hb7⟩
    have R_7 := R_6.keep hb7
    have T_7 := T_6.keep hb7
    have X_7 := X_6.keep hb7
    have S_7 := S_6.keep hb7
    have hbw7 := bStep hbw6 hb7
    clear R_6 T_6 X_6 S_6 hbw6 hb7
    go_wp2_with fail
    go_ret
    exact ⟨rfl, hbw7⟩
  · cases hk2 : sokB t
    · go_wp2_with fail
      refine (specSetOk_eq hk R_4).mono ?_
      rintro e w5 ⟨rfl, hb5⟩
      have R_5 := R_4.keep hb5
      have T_5 := T_4.keep hb5
      have X_5 := X_4.keep hb5
      have hbw5 := bStep hbw4 hb5
      clear R_4 T_4 X_4 hbw4 hb5
      go_wp2_with fail
      refine (specSetOk_eq hk2 T_5).mono ?_
      rintro e w6 ⟨rfl, hb6⟩
      have R_6 := R_5.keep hb6
      have T_6 := T_5.keep hb6
      have X_6 := X_5.keep hb6
      have hbw6 := bStep hbw5 hb6
      clear R_5 T_5 X_5 hbw5 hb6
      go_wp2_with fail
      refine (specSetJoin_k HL.out R_6 T_6 (by omega) (by omega)).mono ?_
      rintro e w7 ⟨oz, rfl, S_7, hb7⟩
      have R_7 := R_6.keep hb7
      have T_7 := T_6.keep hb7
      have X_7 := X_6.keep hb7
      have hbw7 := bStep hbw6 hb7
      clear R_6 T_6 X_6 hbw6 hb7
      go_wp2_with fail
      refine (lwItems_eq (selfI _) X_7 S_7).mono ?_
      rintro e w8 ⟨rfl, hb8⟩
      have R_8 := R_7.keep hb8
      have T_8 := T_7.keep hb8
      have X_8 := X_7.keep hb8
      have S_8 := S_7.keep hb8
      have hbw8 := bStep hbw7 hb8
      clear R_7 T_7 X_7 S_7 hbw7 hb8
      go_wp2_with fail
      go_ret
      exact ⟨rfl, hbw8⟩
    · obtain ⟨P, hL_P⟩ : ∃ zz, lessS s = zz := ⟨_, rfl⟩
      have HP : Hid (lessS s = P) := hL_P
      clear hL_P
      obtain ⟨Z, hL_Z⟩ : ∃ zz, joinS P t = zz := ⟨_, rfl⟩
      have HZ : Hid (joinS P t = Z) := hL_Z
      clear hL_Z
      obtain ⟨P2, hL_P2⟩ : ∃ zz, lessS t = zz := ⟨_, rfl⟩
      have HP2 : Hid (lessS t = P2) := hL_P2
      clear hL_P2
      have HB : Hid (lessS L = Z) := by
        have e1 := HL.out
        have e2 := HP.out
        have e3 := HZ.out
        subst e1 e2 e3
        exact (join_less1 hk hk2 hls hlt' (by omega) (by omega)).symm
      have HB2 : Hid (joinS s P2 = Z) := by
        have e1 := HL.out
        have e2 := HP.out
        have e3 := HZ.out
        have e4 := HP2.out
        subst e1 e2 e3 e4
        rw [join_less1 hk hk2 hls hlt' (by omega) (by omega)]
        exact join_less2 hk hk2 hls hlt' (by omega) (by omega)
      have aP : absum P ≤ 50 := by have e2 := HP.out; subst e2; rw [lessS_yes hk, neg_abs1]; omega
      have aP2 : absum P2 ≤ 50 := by have e2 := HP2.out; subst e2; rw [lessS_yes hk2, neg_abs1]; omega
      go_wp2_with fail
      refine (specSetOk_eq hk R_4).mono ?_
      rintro e w5 ⟨rfl, hb5⟩
      have R_5 := R_4.keep hb5
      have T_5 := T_4.keep hb5
      have X_5 := X_4.keep hb5
      have hbw5 := bStep hbw4 hb5
      clear R_4 T_4 X_4 hbw4 hb5
      go_wp2_with fail
      refine (specSetOk_eq hk2 T_5).mono ?_
      rintro e w6 ⟨rfl, hb6⟩
      have R_6 := R_5.keep hb6
      have T_6 := T_5.keep hb6
      have X_6 := X_5.keep hb6
      have hbw6 := bStep hbw5 hb6
      clear R_5 T_5 X_5 hbw5 hb6
      go_wp2_with fail
      refine (implSetLess_k HP.out R_6).mono ?_
      rintro e w7 ⟨op, rfl, P_7, hb7⟩
      have R_7 := R_6.keep hb7
      have T_7 := T_6.keep hb7
      have X_7 := X_6.keep hb7
      have hbw7 := bStep hbw6 hb7
      clear R_6 T_6 X_6 hbw6 hb7
      go_wp2_with fail
      refine (implSetJoin_k HZ.out P_7 T_7 (by omega) (by omega)).mono ?_
      rintro e w8 ⟨oq, rfl, Z_8, hb8⟩
      have R_8 := R_7.keep hb8
      have T_8 := T_7.keep hb8
      have X_8 := X_7.keep hb8
      have hbw8 := bStep hbw7 hb8
      clear R_7 T_7 X_7 P_7 hbw7 hb8
      go_wp2_with fail
      refine (implSetLess_k HB.out X_8).mono ?_
      rintro e w9 ⟨ov, rfl, V_9, hb9⟩
      have R_9 := R_8.keep hb9
      have T_9 := T_8.keep hb9
      have X_9 := X_8.keep hb9
      have Z_9 := Z_8.keep hb9
      have hbw9 := bStep hbw8 hb9
      clear R_8 T_8 X_8 Z_8 hbw8 hb9
      go_wp2_with fail
      refine (lwItems_eq (selfI _) Z_9 V_9).mono ?_
      rintro e w10 ⟨rfl, hb10⟩
      have R_10 := R_9.keep hb10
      have T_10 := T_9.keep hb10
      have X_10 := X_9.keep hb10
      have hbw10 := bStep hbw9 hb10
      clear R_9 T_9 X_9 Z_9 V_9 hbw9 hb10
      go_wp2_with fail
      refine (implSetLess_k HP2.out T_10).mono ?_
      rintro e w11 ⟨op, rfl, P_11, hb11⟩
      have R_11 := R_10.keep hb11
      have T_11 := T_10.keep hb11
      have X_11 := X_10.keep hb11
      have hbw11 := bStep hbw10 hb11
      clear R_10 T_10 X_10 hbw10 hb11
      go_wp2_with fail
      refine (implSetJoin_k HB2.out R_11 P_11 (by omega) (by omega)).mono ?_
      rintro e w12 ⟨oq, rfl, Z_12, hb12⟩
      have R_12 := R_11.keep hb12
      have T_12 := T_11.keep hb12
      have X_12 := X_11.keep hb12
      have hbw12 := bStep hbw11 hb12
      clear R_11 T_11 X_11 P_11 hbw11 hb12
      go_wp2_with fail
      refine (implSetLess_k HB.out X_12).mono ?_
      rintro e w13 ⟨ov, rfl, V_13, hb13⟩
      have R_13 := R_12.keep hb13
      have T_13 := T_12.keep hb13
      have X_13 := X_12.keep hb13
      have Z_13 := Z_12.keep hb13
      have hbw13 := bStep hbw12 hb13
      clear R_12 T_12 X_12 Z_12 hbw12 hb13
      go_wp2_with fail
      refine (lwItems_eq (selfI _) Z_13 V_13).mono ?_
      rintro e w14 ⟨rfl, hb14⟩
      have R_14 := R_13.keep hb14
      have T_14 := T_13.keep hb14
      have X_14 := X_13.keep hb14
      have Z_14 := Z_13.keep hb14
      have V_14 := V_13.keep hb14
      have hbw14 := bStep hbw13 hb14
      clear R_13 T_13 X_13 Z_13 V_13 hbw13 hb14
      go_wp2_with fail
      go_ret
      exact ⟨rfl, hbw14⟩
end FnSetJoinLess
namespace RowFnSetJoinLess
theorem own : ownKnob Try.prog.godebug = none := by kernel_rfl
set_option maxRecDepth 100000 in
theorem lifted (os : Os) (started : os.Started) (H : Type) (enc : TypeId × Value → H) :
    ReturnsInHanded {} Try.checked os 4 .any (Rows.fnSetJoinLessSpec.pre6 enc Try.prog Try.f4 Rows.fnSetJoinLessRow.domain false) (Rows.fnSetJoinLessSpec.post enc Try.prog Try.f4 false true false false) := by
  refine returnsInHanded_of_change (C := Try.checked) own started (by kernel_rfl) Try.func4
    (ChangeSpec.witness6 (enc := enc) (C := Try.checked) false ⟨#[], #[.slice none 0 0], []⟩ 8 (by kernel_rfl) (by kernel_rfl) (by kernel_rfl) (by kernel_rfl)) ?_
  intro W base args ds gs before hval0 hW hcnd _
  have hval : ∀ (j : Nat) t v, Try.f4.params[j]? = some t → args[j]? = some v → Value.okWide Try.prog W .any base t v := hval0
  have hW' := hW
  obtain ⟨p, q, hA0, hV, rfl, hfz, hnd⟩ := hW
  have hA : DataW.TrodAll enc Try.prog W 0 (fun _ => true) true Try.f4.params.toList args.toList ds p := hA0
  rw [Try.params4] at hA hval
  obtain ⟨v0, vs0, d0, ds0, p0, q0, hargs, rfl, rfl, h0, r0⟩ := trodAll_cons hA
  obtain ⟨rfl, rfl, rfl⟩ := trodAll_nil r0
  obtain rfl : args = #[v0] := by cases args; simp_all
  obtain ⟨rfl, rfl⟩ := trodVars_none hV
  obtain ⟨a0, len0, cap0, rfl⟩ := okWide_slice Try.underlying22 (hval 0 22 v0 rfl rfl)
  have k0 := h0
  have lt0 : ∀ x ∈ p0, x.block < W.heap.size := by obtain ⟨m, hm⟩ := k0; exact DataW.trod_lt m _ _ _ hm
  have w0 : Src W (.slice a0 len0 cap0) len0 := by
    obtain ⟨fuel, hf⟩ := h0
    rcases open_ints Try.underlying22 Try.underlying5 (by kernel_rfl) hf with ⟨hcs, _⟩ | ⟨x, l, c, zs, hcs, _, hl, hm, hz, _, hcell, hwz⟩
    · simp [Value.cells] at hcs
      obtain ⟨rfl, rfl, rfl⟩ := hcs
      exact Src.nil _
    · simp [Value.cells] at hcs
      obtain ⟨rfl, rfl, rfl⟩ := hcs
      exact Src.of_row hl hm (by simpa using hz) hcell hwz
  clear hA0 hval0
  refine (FnSetJoinLess.walk a0 len0 cap0 W w0).mono fun e W' ⟨he, bel⟩ => ?_
  subst he
  exact ⟨_, rfl, _, _, _, [], _, [], hW', trodAll_mk1 (shut_bool Try.underlying4 _), (trodAll_cons_mk (Below.trod pfLaid (by kernel_rfl) (of_decide_eq_true (by kernel_rfl)) k0 bel lt0) trodAll_mk0), rfl, bel.frame _, fun h => by cases h⟩
set_option maxHeartbeats 4000000 in
theorem closed : joinedFacts Try.prog 4 Try.f4 Rows.fnSetJoinLessSpec Rows.fnSetJoinLessRow = true := by
  unfold joinedFacts
  exact (andB (andB (andB (andB (andB (andB (andB (andB (andB (andB (andB (andB (andB (andB (andB (andB (andB (andB (andB (andB (andB (andB (andB (andB (andB (andB (andB (andB (andB (andB (andB (by as_aux_lemma => kernel_rfl) pfLaid) pfRowed) (by as_aux_lemma => kernel_rfl)) (by as_aux_lemma => kernel_rfl)) (by as_aux_lemma => kernel_rfl)) (by as_aux_lemma => kernel_rfl)) (by as_aux_lemma => kernel_rfl)) (by as_aux_lemma => kernel_rfl)) (by as_aux_lemma => kernel_rfl)) (by as_aux_lemma => kernel_rfl)) (by as_aux_lemma => kernel_rfl)) (by as_aux_lemma => kernel_rfl)) (by as_aux_lemma => kernel_rfl)) (by as_aux_lemma => kernel_rfl)) (by as_aux_lemma => kernel_rfl)) (by as_aux_lemma => kernel_rfl)) (by as_aux_lemma => kernel_rfl)) (by as_aux_lemma => kernel_rfl)) (by as_aux_lemma => kernel_rfl)) (by as_aux_lemma => kernel_rfl)) (by as_aux_lemma => kernel_rfl)) (by as_aux_lemma => kernel_rfl)) (by as_aux_lemma => kernel_rfl)) pfHeard) pfEnter) (pfLiftB rfl)) (pfMakeB rfl)) (by as_aux_lemma => kernel_rfl)) (by as_aux_lemma => kernel_rfl)) (by as_aux_lemma => kernel_rfl)) (by as_aux_lemma => kernel_rfl))
theorem over : Rows.fnSetJoinLessRow.holds Try.pinned (OpenSpec.ofChange Rows.fnSetJoinLessSpec) :=
  OpenClaim.holds_of_wide 4 Try.f4 rfl rfl rfl rfl rfl rfl rfl ⟨rfl, rfl, rfl, rfl, rfl⟩ rfl rfl rfl rfl rfl (by kernel_rfl) Try.func4 closed
    (of_decide_eq_true (by kernel_rfl)) (by unfold Func.isWrapper; first | (rw [if_pos (by decide +kernel)]; kernel_rfl) | (rw [if_neg (by decide +kernel)]; exact ⟨rfl, rfl⟩))
    (fun os started H enc _ => lifted os started H enc)
end RowFnSetJoinLess
theorem fnSetJoinLess_holds : Rows.FnSetJoinLessSaid := RowFnSetJoinLess.over
end Go.Proofs.Ytjmkcdlkmkhaiaa
