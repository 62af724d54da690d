/- For all bytes, twice: of the rows and the front that they draw BatchMove of the program answers as the model's, and two lists put together and moved are the moved ones put together; the arguments read afterwards as before. No condition. -/
import Derived.Test.YtebgjpghccnfcabPf
import Derived.Test.YtebgjpghccnfcabGd3
namespace Go.Proofs.Ytebgjpghccnfcab
open Go.ChangeShapes Go.WideShapes Go.ChangeAt Go.RowKit Go.Joins

namespace FnBatchMoveBoth
set_option maxRecDepth 100000 in
set_option maxHeartbeats 8000000 in
theorem walk (x0 : Option Addr) (len0 cap0 : Nat) (x1 : Option Addr) (len1 cap1 : Nat) (w : World) (h0 : Src w (.slice x0 len0 cap0) len0) (h1 : Src w (.slice x1 len1 cap1) len1) :
    Calls Try.prog 3 #[.slice x0 len0 cap0, .slice x1 len1 cap1] w fun e w' => e = .returned (.bool true) ∧ Below w.heap.size w w' := by
  by_cases g0 : (1048576 : Int) < (len0 : Int)
  · go_enter Try.func3, Try.ntmps3
    go_wp2_with fail
    go_ret
    exact ⟨rfl, Below.refl _ _⟩
  by_cases g1 : (1048576 : Int) < (len1 : Int)
  · go_enter Try.func3, Try.ntmps3
    go_wp2_with fail
    go_ret
    exact ⟨rfl, Below.refl _ _⟩
  go_enter Try.func3, Try.ntmps3
  go_wp2_with fail
  refine (drawBatchMove_any _ _ _ _ h0).mono ?_
  rintro e w1 ⟨oa, ot, a, f, rfl, hd, hlf, R_1, T_1, hb1⟩
  have h1_1 := h1.keep hb1
  have hbw1 := hb1
  clear h0 h1 hb1
  go_wp2_with fail
  refine (drawBatchOf_any _ _ _ _ h1_1).mono ?_
  rintro e w2 ⟨ob, b, rfl, hdb, B_2, hb2⟩
  have R_2 := R_1.keep hb2
  have T_2 := T_1.keep hb2
  have hbw2 := bStep hbw1 hb2
  clear h1_1 R_1 T_1 hbw1 hb2
  obtain ⟨L, hL_L⟩ : ∃ zz, bmoveL a f = zz := ⟨_, rfl⟩
  have HL : Hid (bmoveL a f = L) := hL_L
  clear hL_L
  go_wp2_with fail
  refine (implMoveB_k HL.out R_2 T_2).mono ?_
  rintro e w3 ⟨ox, rfl, X_3, hb3⟩
  have R_3 := R_2.keep hb3
  have T_3 := T_2.keep hb3
  have B_3 := B_2.keep hb3
  have hbw3 := bStep hbw2 hb3
  clear R_2 T_2 B_2 hbw2 hb3
  go_wp2_with fail
  refine (specMoveB_k HL.out R_3 T_3).mono ?_
  rintro e w4 ⟨os, rfl, S_4, hb4⟩
  have R_4 := R_3.keep hb4
  have T_4 := T_3.keep hb4
  have B_4 := B_3.keep hb4
  have X_4 := X_3.keep hb4
  have hbw4 := bStep hbw3 hb4
  clear R_3 T_3 B_3 X_3 hbw3 hb4
  go_wp2_with fail
  refine (lwRows_eq (selfR _) X_4 S_4).mono ?_
  rintro e w5 ⟨rfl, hb5⟩
  have R_5 := R_4.keep hb5
  have T_5 := T_4.keep hb5
  have B_5 := B_4.keep hb5
  have X_5 := X_4.keep hb5
  have hbw5 := bStep hbw4 hb5
  clear R_4 T_4 B_4 X_4 S_4 hbw4 hb5
  cases hk : rokB a
  · go_wp2_with fail
    refine (specRowsOk_eq hk R_5).mono ?_
    rintro e w6 ⟨rfl, hb6⟩
    have R_6 := R_5.keep hb6
    have T_6 := T_5.keep hb6
    have B_6 := B_5.keep hb6
    have X_6 := X_5.keep hb6
    have hbw6 := bStep hbw5 hb6
    clear R_5 T_5 B_5 X_5 hbw5 hb6
    go_wp2_with fail
    refine (specMoveB_k HL.out R_6 T_6).mono ?_
    rintro e w7 ⟨os, rfl, S_7, hb7⟩
    have R_7 := R_6.keep hb7
    have T_7 := T_6.keep hb7
    have B_7 := B_6.keep hb7
    have X_7 := X_6.keep hb7
    have hbw7 := bStep hbw6 hb7
    clear R_6 T_6 B_6 X_6 hbw6 hb7
    go_wp2_with fail
    refine (lwRows_eq (selfR _) X_7 S_7).mono ?_
    rintro e w8 ⟨rfl, hb8⟩
    have R_8 := R_7.keep hb8
    have T_8 := T_7.keep hb8
    have B_8 := B_7.keep hb8
    have X_8 := X_7.keep hb8
    have S_8 := S_7.keep hb8
    have hbw8 := bStep hbw7 hb8
    clear R_7 T_7 B_7 X_7 S_7 hbw7 hb8
    go_wp2_with fail
    go_ret
    exact ⟨rfl, hbw8⟩
  · cases hb : rokB b
    · go_wp2_with fail
      refine (specRowsOk_eq hk R_5).mono ?_
      rintro e w6 ⟨rfl, hb6⟩
      have R_6 := R_5.keep hb6
      have T_6 := T_5.keep hb6
      have B_6 := B_5.keep hb6
      have X_6 := X_5.keep hb6
      have hbw6 := bStep hbw5 hb6
      clear R_5 T_5 B_5 X_5 hbw5 hb6
      go_wp2_with fail
      refine (specRowsOk_eq hb B_6).mono ?_
      rintro e w7 ⟨rfl, hb7⟩
      have R_7 := R_6.keep hb7
      have T_7 := T_6.keep hb7
      have B_7 := B_6.keep hb7
      have X_7 := X_6.keep hb7
      have hbw7 := bStep hbw6 hb7
      clear R_6 T_6 B_6 X_6 hbw6 hb7
      go_wp2_with fail
      refine (specMoveB_k HL.out R_7 T_7).mono ?_
      rintro e w8 ⟨os, rfl, S_8, hb8⟩
      have R_8 := R_7.keep hb8
      have T_8 := T_7.keep hb8
      have B_8 := B_7.keep hb8
      have X_8 := X_7.keep hb8
      have hbw8 := bStep hbw7 hb8
      clear R_7 T_7 B_7 X_7 hbw7 hb8
      go_wp2_with fail
      refine (lwRows_eq (selfR _) X_8 S_8).mono ?_
      rintro e w9 ⟨rfl, hb9⟩
      have R_9 := R_8.keep hb9
      have T_9 := T_8.keep hb9
      have B_9 := B_8.keep hb9
      have X_9 := X_8.keep hb9
      have S_9 := S_8.keep hb9
      have hbw9 := bStep hbw8 hb9
      clear R_8 T_8 B_8 X_8 S_8 hbw8 hb9
      go_wp2_with fail
      go_ret
      exact ⟨rfl, hbw9⟩
    · cases hf : fokB f
      · go_wp2_with fail
        refine (specRowsOk_eq hk R_5).mono ?_
        rintro e w6 ⟨rfl, hb6⟩
        have R_6 := R_5.keep hb6
        have T_6 := T_5.keep hb6
        have B_6 := B_5.keep hb6
        have X_6 := X_5.keep hb6
        have hbw6 := bStep hbw5 hb6
        clear R_5 T_5 B_5 X_5 hbw5 hb6
        go_wp2_with fail
        refine (specRowsOk_eq hb B_6).mono ?_
        rintro e w7 ⟨rfl, hb7⟩
        have R_7 := R_6.keep hb7
        have T_7 := T_6.keep hb7
        have B_7 := B_6.keep hb7
        have X_7 := X_6.keep hb7
        have hbw7 := bStep hbw6 hb7
        clear R_6 T_6 B_6 X_6 hbw6 hb7
        go_wp2_with fail
        refine (specFrontOk_eq hf T_7).mono ?_
        rintro e w8 ⟨rfl, hb8⟩
        have R_8 := R_7.keep hb8
        have T_8 := T_7.keep hb8
        have B_8 := B_7.keep hb8
        have X_8 := X_7.keep hb8
        have hbw8 := bStep hbw7 hb8
        clear R_7 T_7 B_7 X_7 hbw7 hb8
        go_wp2_with fail
        refine (specMoveB_k HL.out R_8 T_8).mono ?_
        rintro e w9 ⟨os, rfl, S_9, hb9⟩
        have R_9 := R_8.keep hb9
        have T_9 := T_8.keep hb9
        have B_9 := B_8.keep hb9
        have X_9 := X_8.keep hb9
        have hbw9 := bStep hbw8 hb9
        clear R_8 T_8 B_8 X_8 hbw8 hb9
        go_wp2_with fail
        refine (lwRows_eq (selfR _) X_9 S_9).mono ?_
        rintro e w10 ⟨rfl, hb10⟩
        have R_10 := R_9.keep hb10
        have T_10 := T_9.keep hb10
        have B_10 := B_9.keep hb10
        have X_10 := X_9.keep hb10
        have S_10 := S_9.keep hb10
        have hbw10 := bStep hbw9 hb10
        clear R_9 T_9 B_9 X_9 S_9 hbw9 hb10
        go_wp2_with fail
        go_ret
        exact ⟨rfl, hbw10⟩
      · obtain ⟨P, hL_P⟩ : ∃ zz, bothB a b = zz := ⟨_, rfl⟩
        have HP : Hid (bothB a b = P) := hL_P
        clear hL_P
        obtain ⟨M, hL_M⟩ : ∃ zz, bmoveL b f = zz := ⟨_, rfl⟩
        have HM : Hid (bmoveL b f = M) := hL_M
        clear hL_M
        obtain ⟨Z, hL_Z⟩ : ∃ zz, bmoveL P f = zz := ⟨_, rfl⟩
        have HZ : Hid (bmoveL P f = Z) := hL_Z
        clear hL_Z
        have HB : Hid (bothB L M = Z) := by
          have h1 := hd.abs hk
          have h2 := hdb.abs hb
          have e1 := HL.out
          have e2 := HM.out
          have e3 := HP.out
          have e4 := HZ.out
          subst e1 e2 e3 e4
          exact (move_both hf hk hb hd.1 hdb.1 h1 h2).symm
        go_wp2_with fail
        refine (specRowsOk_eq hk R_5).mono ?_
        rintro e w6 ⟨rfl, hb6⟩
        have R_6 := R_5.keep hb6
        have T_6 := T_5.keep hb6
        have B_6 := B_5.keep hb6
        have X_6 := X_5.keep hb6
        have hbw6 := bStep hbw5 hb6
        clear R_5 T_5 B_5 X_5 hbw5 hb6
        go_wp2_with fail
        refine (specRowsOk_eq hb B_6).mono ?_
        rintro e w7 ⟨rfl, hb7⟩
        have R_7 := R_6.keep hb7
        have T_7 := T_6.keep hb7
        have B_7 := B_6.keep hb7
        have X_7 := X_6.keep hb7
        have hbw7 := bStep hbw6 hb7
        clear R_6 T_6 B_6 X_6 hbw6 hb7
        go_wp2_with fail
        refine (specFrontOk_eq hf T_7).mono ?_
        rintro e w8 ⟨rfl, hb8⟩
        have R_8 := R_7.keep hb8
        have T_8 := T_7.keep hb8
        have B_8 := B_7.keep hb8
        have X_8 := X_7.keep hb8
        have hbw8 := bStep hbw7 hb8
        clear R_7 T_7 B_7 X_7 hbw7 hb8
        go_wp2_with fail
        refine (implBothB_k HP.out R_8 B_8).mono ?_
        rintro e w9 ⟨op, rfl, P_9, hb9⟩
        have R_9 := R_8.keep hb9
        have T_9 := T_8.keep hb9
        have B_9 := B_8.keep hb9
        have X_9 := X_8.keep hb9
        have hbw9 := bStep hbw8 hb9
        clear R_8 T_8 B_8 X_8 hbw8 hb9
        go_wp2_with fail
        refine (implMoveB_k HZ.out P_9 T_9).mono ?_
        rintro e w10 ⟨oz, rfl, Z_10, hb10⟩
        have R_10 := R_9.keep hb10
        have T_10 := T_9.keep hb10
        have B_10 := B_9.keep hb10
        have X_10 := X_9.keep hb10
        have hbw10 := bStep hbw9 hb10
        clear R_9 T_9 B_9 X_9 P_9 hbw9 hb10
        go_wp2_with fail
        refine (implMoveB_k HM.out B_10 T_10).mono ?_
        rintro e w11 ⟨om, rfl, M_11, hb11⟩
        have R_11 := R_10.keep hb11
        have T_11 := T_10.keep hb11
        have B_11 := B_10.keep hb11
        have X_11 := X_10.keep hb11
        have Z_11 := Z_10.keep hb11
        have hbw11 := bStep hbw10 hb11
        clear R_10 T_10 B_10 X_10 Z_10 hbw10 hb11
        go_wp2_with fail
        refine (implBothB_k HB.out X_11 M_11).mono ?_
        rintro e w12 ⟨ov, rfl, V_12, hb12⟩
        have R_12 := R_11.keep hb12
        have T_12 := T_11.keep hb12
        have B_12 := B_11.keep hb12
        have X_12 := X_11.keep hb12
        have Z_12 := Z_11.keep hb12
        have M_12 := M_11.keep hb12
        have hbw12 := bStep hbw11 hb12
        clear R_11 T_11 B_11 X_11 Z_11 M_11 hbw11 hb12
        go_wp2_with fail
        refine (lwRows_eq (selfR _) Z_12 V_12).mono ?_
        rintro e w13 ⟨rfl, hb13⟩
        have R_13 := R_12.keep hb13
        have T_13 := T_12.keep hb13
        have B_13 := B_12.keep hb13
        have X_13 := X_12.keep hb13
        have Z_13 := Z_12.keep hb13
        have M_13 := M_12.keep hb13
        have V_13 := V_12.keep hb13
        have hbw13 := bStep hbw12 hb13
        clear R_12 T_12 B_12 X_12 Z_12 M_12 V_12 hbw12 hb13
        go_wp2_with fail
        go_ret
        exact ⟨rfl, hbw13⟩
end FnBatchMoveBoth
namespace RowFnBatchMoveBoth
theorem own : ownKnob Try.prog.godebug = none := by kernel_rfl
set_option maxRecDepth 100000 in
theorem lifted (os : Os) (started : os.Started) (H : Type) (enc : TypeId × Value → H) :
    ReturnsInHanded {} Try.checked os 3 .any (Rows.fnBatchMoveBothSpec.pre6 enc Try.prog Try.f3 Rows.fnBatchMoveBothRow.domain false) (Rows.fnBatchMoveBothSpec.post enc Try.prog Try.f3 false true false false) := by
  refine returnsInHanded_of_change (C := Try.checked) own started (by kernel_rfl) Try.func3
    (ChangeSpec.witness6 (enc := enc) (C := Try.checked) false ⟨#[], #[.slice none 0 0, .slice none 0 0], []⟩ 8 (by kernel_rfl) (by kernel_rfl) (by kernel_rfl) (by kernel_rfl)) ?_
  intro W base args ds gs before hval0 hW hcnd _
  have hval : ∀ (j : Nat) t v, Try.f3.params[j]? = some t → args[j]? = some v → Value.okWide Try.prog W .any base t v := hval0
  have hW' := hW
  obtain ⟨p, q, hA0, hV, rfl, hfz, hnd⟩ := hW
  have hA : DataW.TrodAll enc Try.prog W 0 (fun _ => true) true Try.f3.params.toList args.toList ds p := hA0
  rw [Try.params3] at hA hval
  obtain ⟨v0, vs0, d0, ds0, p0, q0, hargs, rfl, rfl, h0, r0⟩ := trodAll_cons hA
  obtain ⟨v1, vs1, d1, ds1, p1, q1, rfl, rfl, rfl, h1, r1⟩ := trodAll_cons r0
  obtain ⟨rfl, rfl, rfl⟩ := trodAll_nil r1
  obtain rfl : args = #[v0, v1] := by cases args; simp_all
  obtain ⟨rfl, rfl⟩ := trodVars_none hV
  obtain ⟨a0, len0, cap0, rfl⟩ := okWide_slice Try.underlying22 (hval 0 22 v0 rfl rfl)
  have k0 := h0
  have lt0 : ∀ x ∈ p0, x.block < W.heap.size := by obtain ⟨m, hm⟩ := k0; exact DataW.trod_lt m _ _ _ hm
  have w0 : Src W (.slice a0 len0 cap0) len0 := by
    obtain ⟨fuel, hf⟩ := h0
    rcases open_ints Try.underlying22 Try.underlying5 (by kernel_rfl) hf with ⟨hcs, _⟩ | ⟨x, l, c, zs, hcs, _, hl, hm, hz, _, hcell, hwz⟩
    · simp [Value.cells] at hcs
      obtain ⟨rfl, rfl, rfl⟩ := hcs
      exact Src.nil _
    · simp [Value.cells] at hcs
      obtain ⟨rfl, rfl, rfl⟩ := hcs
      exact Src.of_row hl hm (by simpa using hz) hcell hwz
  obtain ⟨a1, len1, cap1, rfl⟩ := okWide_slice Try.underlying22 (hval 1 22 v1 rfl rfl)
  have k1 := h1
  have lt1 : ∀ x ∈ p1, x.block < W.heap.size := by obtain ⟨m, hm⟩ := k1; exact DataW.trod_lt m _ _ _ hm
  have w1 : Src W (.slice a1 len1 cap1) len1 := by
    obtain ⟨fuel, hf⟩ := h1
    rcases open_ints Try.underlying22 Try.underlying5 (by kernel_rfl) hf with ⟨hcs, _⟩ | ⟨x, l, c, zs, hcs, _, hl, hm, hz, _, hcell, hwz⟩
    · simp [Value.cells] at hcs
      obtain ⟨rfl, rfl, rfl⟩ := hcs
      exact Src.nil _
    · simp [Value.cells] at hcs
      obtain ⟨rfl, rfl, rfl⟩ := hcs
      exact Src.of_row hl hm (by simpa using hz) hcell hwz
  clear hA0 hval0
  refine (FnBatchMoveBoth.walk a0 len0 cap0 a1 len1 cap1 W w0 w1).mono fun e W' ⟨he, bel⟩ => ?_
  subst he
  exact ⟨_, rfl, _, _, _, [], _, [], hW', trodAll_mk1 (shut_bool Try.underlying4 _), (trodAll_cons_mk (Below.trod pfLaid (by kernel_rfl) (of_decide_eq_true (by kernel_rfl)) k0 bel lt0) (trodAll_cons_mk (Below.trod pfLaid (by kernel_rfl) (of_decide_eq_true (by kernel_rfl)) k1 bel lt1) trodAll_mk0)), rfl, bel.frame _, fun h => by cases h⟩
set_option maxHeartbeats 4000000 in
theorem closed : joinedFacts Try.prog 3 Try.f3 Rows.fnBatchMoveBothSpec Rows.fnBatchMoveBothRow = true := by
  unfold joinedFacts
  exact (andB (andB (andB (andB (andB (andB (andB (andB (andB (andB (andB (andB (andB (andB (andB (andB (andB (andB (andB (andB (andB (andB (andB (andB (andB (andB (andB (andB (andB (andB (andB (by as_aux_lemma => kernel_rfl) pfLaid) pfRowed) (by as_aux_lemma => kernel_rfl)) (by as_aux_lemma => kernel_rfl)) (by as_aux_lemma => kernel_rfl)) (by as_aux_lemma => kernel_rfl)) (by as_aux_lemma => kernel_rfl)) (by as_aux_lemma => kernel_rfl)) (by as_aux_lemma => kernel_rfl)) (by as_aux_lemma => kernel_rfl)) (by as_aux_lemma => kernel_rfl)) (by as_aux_lemma => kernel_rfl)) (by as_aux_lemma => kernel_rfl)) (by as_aux_lemma => kernel_rfl)) (by as_aux_lemma => kernel_rfl)) (by as_aux_lemma => kernel_rfl)) (by as_aux_lemma => kernel_rfl)) (by as_aux_lemma => kernel_rfl)) (by as_aux_lemma => kernel_rfl)) (by as_aux_lemma => kernel_rfl)) (by as_aux_lemma => kernel_rfl)) (by as_aux_lemma => kernel_rfl)) (by as_aux_lemma => kernel_rfl)) pfHeard) pfEnter) (pfLiftB rfl)) (pfMakeB rfl)) (by as_aux_lemma => kernel_rfl)) (by as_aux_lemma => kernel_rfl)) (by as_aux_lemma => kernel_rfl)) (by as_aux_lemma => kernel_rfl))
theorem over : Rows.fnBatchMoveBothRow.holds Try.pinned (OpenSpec.ofChange Rows.fnBatchMoveBothSpec) :=
  OpenClaim.holds_of_wide 3 Try.f3 rfl rfl rfl rfl rfl rfl rfl ⟨rfl, rfl, rfl, rfl, rfl⟩ rfl rfl rfl rfl rfl (by kernel_rfl) Try.func3 closed
    (of_decide_eq_true (by kernel_rfl)) (by unfold Func.isWrapper; first | (rw [if_pos (by decide +kernel)]; kernel_rfl) | (rw [if_neg (by decide +kernel)]; exact ⟨rfl, rfl⟩))
    (fun os started H enc _ => lifted os started H enc)
end RowFnBatchMoveBoth
theorem fnBatchMoveBoth_holds : Rows.FnBatchMoveBothSaid := RowFnBatchMoveBoth.over
end Go.Proofs.Ytebgjpghccnfcab
