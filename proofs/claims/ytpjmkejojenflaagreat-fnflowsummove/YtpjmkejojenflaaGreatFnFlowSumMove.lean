/- For all bytes, twice: FlowSum of the program makes of the rows that they draw, by the kind that they draw, what the model makes of them, and what it makes of rows that are moved to the front that they draw says the same of all times at the front, or behind it; the arguments read afterwards as before. No condition. -/
import Derived.Test.YtpjmkejojenflaaGreatPf
import Derived.Test.YtpjmkejojenflaaGreatK9
namespace Go.Proofs.YtpjmkejojenflaaGreat
open Go.ChangeShapes Go.WideShapes Go.ChangeAt Go.RowKit Go.Joins

namespace FnFlowSumMove
set_option maxRecDepth 100000 in
set_option maxHeartbeats 8000000 in
theorem walk (x0 : Option Addr) (len0 cap0 : Nat) (x1 : Option Addr) (len1 cap1 : Nat) (w : World) (h0 : Src w (.slice x0 len0 cap0) len0) (h1 : Src w (.slice x1 len1 cap1) len1) :
    Calls Tryz.prog 6 #[.slice x0 len0 cap0, .slice x1 len1 cap1] w fun e w' => e = .returned (.bool true) ∧ Below w.heap.size w w' := by
  by_cases g0 : (1048576 : Int) < (len0 : Int)
  · go_enter Tryz.func6, Tryz.ntmps6
    go_wp2_with fail
    go_ret
    exact ⟨rfl, Below.refl _ _⟩
  by_cases g1 : (1048576 : Int) < (len1 : Int)
  · go_enter Tryz.func6, Tryz.ntmps6
    go_wp2_with fail
    go_ret
    exact ⟨rfl, Below.refl _ _⟩
  go_enter Tryz.func6, Tryz.ntmps6
  go_wp2_with fail
  refine (drawFlowSum_any _ _ _ _ h0).mono ?_
  rintro e w1 ⟨oa, a, kind, rfl, hd, R_1, hb1⟩
  have h1_1 := h1.keep hb1
  have hbw1 := hb1
  clear h0 h1 hb1
  go_wp2_with fail
  refine (drawBatchMove_any _ _ _ _ h1_1).mono ?_
  rintro e w2 ⟨oc, ot, c, f, rfl, hdc, hlf, U_2, F_2, hb2⟩
  have R_2 := R_1.keep hb2
  have hbw2 := bStep hbw1 hb2
  clear h1_1 R_1 hbw1 hb2
  obtain ⟨L, hL_L⟩ : ∃ zz, fsumL a kind = zz := ⟨_, rfl⟩
  have HL : Hid (fsumL a kind = L) := hL_L
  clear hL_L
  go_wp2_with fail
  refine (implFlowSum_k HL.out R_2).mono ?_
  rintro e w3 ⟨ox, rfl, X_3, hb3⟩
  have R_3 := R_2.keep hb3
  have F_3 := F_2.keep hb3
  have hbw3 := bStep hbw2 hb3
  clear R_2 U_2 F_2 hbw2 hb3
  go_wp2_with fail
  refine (specFlowSum_k HL.out R_3).mono ?_
  rintro e w4 ⟨os, rfl, S_4, hb4⟩
  have R_4 := R_3.keep hb4
  have F_4 := F_3.keep hb4
  have X_4 := X_3.keep hb4
  have hbw4 := bStep hbw3 hb4
  clear R_3 F_3 X_3 hbw3 hb4
  go_wp2_with fail
  refine (lwRows_eq (selfR _) X_4 S_4).mono ?_
  rintro e w5 ⟨rfl, hb5⟩
  have R_5 := R_4.keep hb5
  have F_5 := F_4.keep hb5
  have X_5 := X_4.keep hb5
  have hbw5 := bStep hbw4 hb5
  clear R_4 F_4 X_4 S_4 hbw4 hb5
  cases hk : rokB a
  · go_wp2_with fail
    refine (specRowsOk_eq hk R_5).mono ?_
    rintro e w6 ⟨rfl, hb6⟩
    have R_6 := R_5.keep hb6
    have F_6 := F_5.keep hb6
    have X_6 := X_5.keep hb6
    have hbw6 := bStep hbw5 hb6
    clear R_5 F_5 X_5 hbw5 hb6
    go_wp2_with fail
    refine (specFlowSum_k HL.out R_6).mono ?_
    rintro e w7 ⟨os, rfl, S_7, hb7⟩
    have R_7 := R_6.keep hb7
    have F_7 := F_6.keep hb7
    have X_7 := X_6.keep hb7
    have hbw7 := bStep hbw6 hb7
    clear R_6 F_6 X_6 hbw6 hb7
    go_wp2_with fail
    refine (lwRows_eq (selfR _) X_7 S_7).mono ?_
    rintro e w8 ⟨rfl, hb8⟩
    have R_8 := R_7.keep hb8
    have F_8 := F_7.keep hb8
    have X_8 := X_7.keep hb8
    have S_8 := S_7.keep hb8
    have hbw8 := bStep hbw7 hb8
    clear R_7 F_7 X_7 S_7 hbw7 hb8
    go_wp2_with fail
    go_ret
    exact ⟨rfl, hbw8⟩
  · cases hk2 : fokB f
    · go_wp2_with fail
      refine (specRowsOk_eq hk R_5).mono ?_
      rintro e w6 ⟨rfl, hb6⟩
      have R_6 := R_5.keep hb6
      have F_6 := F_5.keep hb6
      have X_6 := X_5.keep hb6
      have hbw6 := bStep hbw5 hb6
      clear R_5 F_5 X_5 hbw5 hb6
      go_wp2_with fail
      refine (specFrontOk_eq hk2 F_6).mono ?_
      rintro e w7 ⟨rfl, hb7⟩
      have R_7 := R_6.keep hb7
      have F_7 := F_6.keep hb7
      have X_7 := X_6.keep hb7
      have hbw7 := bStep hbw6 hb7
      clear R_6 F_6 X_6 hbw6 hb7
      go_wp2_with fail
      refine (specFlowSum_k HL.out R_7).mono ?_
      rintro e w8 ⟨os, rfl, S_8, hb8⟩
      have R_8 := R_7.keep hb8
      have F_8 := F_7.keep hb8
      have X_8 := X_7.keep hb8
      have hbw8 := bStep hbw7 hb8
      clear R_7 F_7 X_7 hbw7 hb8
      go_wp2_with fail
      refine (lwRows_eq (selfR _) X_8 S_8).mono ?_
      rintro e w9 ⟨rfl, hb9⟩
      have R_9 := R_8.keep hb9
      have F_9 := F_8.keep hb9
      have X_9 := X_8.keep hb9
      have S_9 := S_8.keep hb9
      have hbw9 := bStep hbw8 hb9
      clear R_8 F_8 X_8 S_8 hbw8 hb9
      go_wp2_with fail
      go_ret
      exact ⟨rfl, hbw9⟩
    · obtain ⟨P, hL_P⟩ : ∃ zz, bmoveL a f = zz := ⟨_, rfl⟩
      have HP : Hid (bmoveL a f = P) := hL_P
      clear hL_P
      obtain ⟨Z, hL_Z⟩ : ∃ zz, fsumL P kind = zz := ⟨_, rfl⟩
      have HZ : Hid (fsumL P kind = Z) := hL_Z
      clear hL_Z
      have ha := hd.drR.abs hk
      have hl1 := hd.1
      have HI : Hid (∀ x y : Int, okB x y = true → askedB f x y = true → itemsL L x y = itemsL Z x y) := by
        have e1 := HL.out
        have e2 := HP.out
        have e3 := HZ.out
        subst e1 e2 e3
        exact fun x y hx hc => fsum_move hk2 hk hl1 ha hx hc
      go_wp2_with fail
      refine (specRowsOk_eq hk R_5).mono ?_
      rintro e w6 ⟨rfl, hb6⟩
      have R_6 := R_5.keep hb6
      have F_6 := F_5.keep hb6
      have X_6 := X_5.keep hb6
      have hbw6 := bStep hbw5 hb6
      clear R_5 F_5 X_5 hbw5 hb6
      go_wp2_with fail
      refine (specFrontOk_eq hk2 F_6).mono ?_
      rintro e w7 ⟨rfl, hb7⟩
      have R_7 := R_6.keep hb7
      have F_7 := F_6.keep hb7
      have X_7 := X_6.keep hb7
      have hbw7 := bStep hbw6 hb7
      clear R_6 F_6 X_6 hbw6 hb7
      go_wp2_with fail
      refine (implMoveB_k HP.out R_7 F_7).mono ?_
      rintro e w8 ⟨op, rfl, P_8, hb8⟩
      have R_8 := R_7.keep hb8
      have F_8 := F_7.keep hb8
      have X_8 := X_7.keep hb8
      have hbw8 := bStep hbw7 hb8
      clear R_7 F_7 X_7 hbw7 hb8
      go_wp2_with fail
      refine (implFlowSum_k HZ.out P_8).mono ?_
      rintro e w9 ⟨oz, rfl, Z_9, hb9⟩
      have R_9 := R_8.keep hb9
      have F_9 := F_8.keep hb9
      have X_9 := X_8.keep hb9
      have hbw9 := bStep hbw8 hb9
      clear R_8 F_8 X_8 P_8 hbw8 hb9
      go_wp2_with fail
      refine (lwSame_any _ _ _ L Z f _ X_9 Z_9 F_9 HI.out).mono ?_
      rintro e w10 ⟨rfl, hb10⟩
      have R_10 := R_9.keep hb10
      have F_10 := F_9.keep hb10
      have X_10 := X_9.keep hb10
      have Z_10 := Z_9.keep hb10
      have hbw10 := bStep hbw9 hb10
      clear R_9 F_9 X_9 Z_9 hbw9 hb10
      go_wp2_with fail
      go_ret
      exact ⟨rfl, hbw10⟩
end FnFlowSumMove
namespace RowFnFlowSumMove
theorem own : ownKnob Tryz.prog.godebug = none := by kernel_rfl
set_option maxRecDepth 100000 in
theorem lifted (os : Os) (started : os.Started) (H : Type) (enc : TypeId × Value → H) :
    ReturnsInHanded {} Tryz.checked os 6 .any (Rows.fnFlowSumMoveSpec.pre6 enc Tryz.prog Tryz.f6 Rows.fnFlowSumMoveRow.domain false) (Rows.fnFlowSumMoveSpec.post enc Tryz.prog Tryz.f6 false true false false) := by
  refine returnsInHanded_of_change (C := Tryz.checked) own started (by kernel_rfl) Tryz.func6
    (ChangeSpec.witness6 (enc := enc) (C := Tryz.checked) false ⟨#[], #[.slice none 0 0, .slice none 0 0], []⟩ 8 (by kernel_rfl) (by kernel_rfl) (by kernel_rfl) (by kernel_rfl)) ?_
  intro W base args ds gs before hval0 hW hcnd _
  have hval : ∀ (j : Nat) t v, Tryz.f6.params[j]? = some t → args[j]? = some v → Value.okWide Tryz.prog W .any base t v := hval0
  have hW' := hW
  obtain ⟨p, q, hA0, hV, rfl, hfz, hnd⟩ := hW
  have hA : DataW.TrodAll enc Tryz.prog W 0 (fun _ => true) true Tryz.f6.params.toList args.toList ds p := hA0
  rw [Tryz.params6] at hA hval
  obtain ⟨v0, vs0, d0, ds0, p0, q0, hargs, rfl, rfl, h0, r0⟩ := trodAll_cons hA
  obtain ⟨v1, vs1, d1, ds1, p1, q1, rfl, rfl, rfl, h1, r1⟩ := trodAll_cons r0
  obtain ⟨rfl, rfl, rfl⟩ := trodAll_nil r1
  obtain rfl : args = #[v0, v1] := by cases args; simp_all
  obtain ⟨rfl, rfl⟩ := trodVars_none hV
  obtain ⟨a0, len0, cap0, rfl⟩ := okWide_slice Tryz.underlying22 (hval 0 22 v0 rfl rfl)
  have k0 := h0
  have lt0 : ∀ x ∈ p0, x.block < W.heap.size := by obtain ⟨m, hm⟩ := k0; exact DataW.trod_lt m _ _ _ hm
  have w0 : Src W (.slice a0 len0 cap0) len0 := by
    obtain ⟨fuel, hf⟩ := h0
    rcases open_ints Tryz.underlying22 Tryz.underlying5 (by kernel_rfl) hf with ⟨hcs, _⟩ | ⟨x, l, c, zs, hcs, _, hl, hm, hz, _, hcell, hwz⟩
    · simp [Value.cells] at hcs
      obtain ⟨rfl, rfl, rfl⟩ := hcs
      exact Src.nil _
    · simp [Value.cells] at hcs
      obtain ⟨rfl, rfl, rfl⟩ := hcs
      exact Src.of_row hl hm (by simpa using hz) hcell hwz
  obtain ⟨a1, len1, cap1, rfl⟩ := okWide_slice Tryz.underlying22 (hval 1 22 v1 rfl rfl)
  have k1 := h1
  have lt1 : ∀ x ∈ p1, x.block < W.heap.size := by obtain ⟨m, hm⟩ := k1; exact DataW.trod_lt m _ _ _ hm
  have w1 : Src W (.slice a1 len1 cap1) len1 := by
    obtain ⟨fuel, hf⟩ := h1
    rcases open_ints Tryz.underlying22 Tryz.underlying5 (by kernel_rfl) hf with ⟨hcs, _⟩ | ⟨x, l, c, zs, hcs, _, hl, hm, hz, _, hcell, hwz⟩
    · simp [Value.cells] at hcs
      obtain ⟨rfl, rfl, rfl⟩ := hcs
      exact Src.nil _
    · simp [Value.cells] at hcs
      obtain ⟨rfl, rfl, rfl⟩ := hcs
      exact Src.of_row hl hm (by simpa using hz) hcell hwz
  clear hA0 hval0
  refine (FnFlowSumMove.walk a0 len0 cap0 a1 len1 cap1 W w0 w1).mono fun e W' ⟨he, bel⟩ => ?_
  subst he
  exact ⟨_, rfl, _, _, _, [], _, [], hW', trodAll_mk1 (shut_bool Tryz.underlying4 _), (trodAll_cons_mk (Below.trod pfLaid (by kernel_rfl) (of_decide_eq_true (by kernel_rfl)) k0 bel lt0) (trodAll_cons_mk (Below.trod pfLaid (by kernel_rfl) (of_decide_eq_true (by kernel_rfl)) k1 bel lt1) trodAll_mk0)), rfl, bel.frame _, fun h => by cases h⟩
set_option maxHeartbeats 4000000 in
theorem closed : joinedFacts Tryz.prog 6 Tryz.f6 Rows.fnFlowSumMoveSpec Rows.fnFlowSumMoveRow = true := by
  unfold joinedFacts
  exact (andB (andB (andB (andB (andB (andB (andB (andB (andB (andB (andB (andB (andB (andB (andB (andB (andB (andB (andB (andB (andB (andB (andB (andB (andB (andB (andB (andB (andB (andB (andB (by as_aux_lemma => kernel_rfl) pfLaid) pfRowed) (by as_aux_lemma => kernel_rfl)) (by as_aux_lemma => kernel_rfl)) (by as_aux_lemma => kernel_rfl)) (by as_aux_lemma => kernel_rfl)) (by as_aux_lemma => kernel_rfl)) (by as_aux_lemma => kernel_rfl)) (by as_aux_lemma => kernel_rfl)) (by as_aux_lemma => kernel_rfl)) (by as_aux_lemma => kernel_rfl)) (by as_aux_lemma => kernel_rfl)) (by as_aux_lemma => kernel_rfl)) (by as_aux_lemma => kernel_rfl)) (by as_aux_lemma => kernel_rfl)) (by as_aux_lemma => kernel_rfl)) (by as_aux_lemma => kernel_rfl)) (by as_aux_lemma => kernel_rfl)) (by as_aux_lemma => kernel_rfl)) (by as_aux_lemma => kernel_rfl)) (by as_aux_lemma => kernel_rfl)) (by as_aux_lemma => kernel_rfl)) (by as_aux_lemma => kernel_rfl)) pfHeard) pfEnter) (pfLiftB rfl)) (pfMakeB rfl)) (by as_aux_lemma => kernel_rfl)) (by as_aux_lemma => kernel_rfl)) (by as_aux_lemma => kernel_rfl)) (by as_aux_lemma => kernel_rfl))
theorem over : Rows.fnFlowSumMoveRow.holds Tryz.pinned (OpenSpec.ofChange Rows.fnFlowSumMoveSpec) :=
  OpenClaim.holds_of_wide 6 Tryz.f6 rfl rfl rfl rfl rfl rfl rfl ⟨rfl, rfl, rfl, rfl, rfl⟩ rfl rfl rfl rfl rfl (by kernel_rfl) Tryz.func6 closed
    (of_decide_eq_true (by kernel_rfl)) (by unfold Func.isWrapper; first | (rw [if_pos (by decide +kernel)]; kernel_rfl) | (rw [if_neg (by decide +kernel)]; exact ⟨rfl, rfl⟩))
    (fun os started H enc _ => lifted os started H enc)
end RowFnFlowSumMove
theorem fnFlowSumMove_holds : Rows.FnFlowSumMoveSaid := RowFnFlowSumMove.over
end Go.Proofs.YtpjmkejojenflaaGreat
