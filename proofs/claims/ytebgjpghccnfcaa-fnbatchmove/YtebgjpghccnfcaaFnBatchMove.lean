/- For all bytes: BatchMove of the program makes of the rows and the front that they draw what the model makes of them, a batch that says the same as the rows at all times at the front, or behind it; the argument reads afterwards as before. No condition. -/
import Derived.Test.YtebgjpghccnfcaaPf
import Derived.Test.YtebgjpghccnfcaaGd3
namespace Go.Proofs.Ytebgjpghccnfcaa
open Go.ChangeShapes Go.WideShapes Go.ChangeAt Go.RowKit Go.Joins

namespace FnBatchMove
set_option maxRecDepth 100000 in
set_option maxHeartbeats 8000000 in
theorem walk (x0 : Option Addr) (len0 cap0 : Nat) (w : World) (h0 : Src w (.slice x0 len0 cap0) len0) :
    Calls Try.prog 7 #[.slice x0 len0 cap0] w fun e w' => e = .returned (.bool true) ∧ Below w.heap.size w w' := by
  by_cases g0 : (1048576 : Int) < (len0 : Int)
  · go_enter Try.func7, Try.ntmps7
    go_wp2_with fail
    go_ret
    exact ⟨rfl, Below.refl _ _⟩
  go_enter Try.func7, Try.ntmps7
  go_wp2_with fail
  refine (drawBatchMove_any _ _ _ _ h0).mono ?_
  rintro e w1 ⟨oa, ot, a, f, rfl, hd, hlf, R_1, T_1, hb1⟩
  have hbw1 := hb1
  clear h0 hb1
  obtain ⟨L, hL_L⟩ : ∃ zz, bmoveL a f = zz := ⟨_, rfl⟩
  have HL : Hid (bmoveL a f = L) := hL_L
  clear hL_L
  go_wp2_with fail
  refine (implMoveB_k HL.out R_1 T_1).mono ?_
  rintro e w2 ⟨ox, rfl, X_2, hb2⟩
  have R_2 := R_1.keep hb2
  have T_2 := T_1.keep hb2
  have hbw2 := bStep hbw1 hb2
  clear R_1 T_1 hbw1 hb2
  go_wp2_with fail
  refine (specMoveB_k HL.out R_2 T_2).mono ?_
  rintro e w3 ⟨os, rfl, S_3, hb3⟩
  have R_3 := R_2.keep hb3
  have T_3 := T_2.keep hb3
  have X_3 := X_2.keep hb3
  have hbw3 := bStep hbw2 hb3
  clear R_2 T_2 X_2 hbw2 hb3
  go_wp2_with fail
  refine (lwRows_eq (selfR _) X_3 S_3).mono ?_
  rintro e w4 ⟨rfl, hb4⟩
  have R_4 := R_3.keep hb4
  have T_4 := T_3.keep hb4
  have X_4 := X_3.keep hb4
  have hbw4 := bStep hbw3 hb4
  clear R_3 T_3 X_3 S_3 hbw3 hb4
  cases hk : rokB a
  · go_wp2_with fail
    refine (specRowsOk_eq hk R_4).mono ?_
    rintro e w5 ⟨rfl, hb5⟩
    have R_5 := R_4.keep hb5
    have T_5 := T_4.keep hb5
    have X_5 := X_4.keep hb5
    have hbw5 := bStep hbw4 hb5
    clear R_4 T_4 X_4 hbw4 hb5
    go_wp2_with fail
    refine (specMoveB_k HL.out R_5 T_5).mono ?_
    rintro e w6 ⟨os, rfl, S_6, hb6⟩
    have R_6 := R_5.keep hb6
    have T_6 := T_5.keep hb6
    have X_6 := X_5.keep hb6
    have hbw6 := bStep hbw5 hb6
    clear R_5 T_5 X_5 hbw5 hb6
    go_wp2_with fail
    refine (lwRows_eq (selfR _) X_6 S_6).mono ?_
    rintro e w7 ⟨rfl, hb7⟩
    have R_7 := R_6.keep hb7
    have T_7 := T_6.keep hb7
    have X_7 := X_6.keep hb7
    have S_7 := S_6.keep hb7
    have hbw7 := bStep hbw6 hb7
    clear R_6 T_6 X_6 S_6 hbw6 hb7
    go_wp2_with fail
    go_ret
    exact ⟨rfl, hbw7⟩
  · cases hf : fokB f
    · go_wp2_with fail
      refine (specRowsOk_eq hk R_4).mono ?_
      rintro e w5 ⟨rfl, hb5⟩
      have R_5 := R_4.keep hb5
      have T_5 := T_4.keep hb5
      have X_5 := X_4.keep hb5
      have hbw5 := bStep hbw4 hb5
      clear R_4 T_4 X_4 hbw4 hb5
      go_wp2_with fail
      refine (specFrontOk_eq hf T_5).mono ?_
      rintro e w6 ⟨rfl, hb6⟩
      have R_6 := R_5.keep hb6
      have T_6 := T_5.keep hb6
      have X_6 := X_5.keep hb6
      have hbw6 := bStep hbw5 hb6
      clear R_5 T_5 X_5 hbw5 hb6
      go_wp2_with fail
      refine (specMoveB_k HL.out R_6 T_6).mono ?_
      rintro e w7 ⟨os, rfl, S_7, hb7⟩
      have R_7 := R_6.keep hb7
      have T_7 := T_6.keep hb7
      have X_7 := X_6.keep hb7
      have hbw7 := bStep hbw6 hb7
      clear R_6 T_6 X_6 hbw6 hb7
      go_wp2_with fail
      refine (lwRows_eq (selfR _) X_7 S_7).mono ?_
      rintro e w8 ⟨rfl, hb8⟩
      have R_8 := R_7.keep hb8
      have T_8 := T_7.keep hb8
      have X_8 := X_7.keep hb8
      have S_8 := S_7.keep hb8
      have hbw8 := bStep hbw7 hb8
      clear R_7 T_7 X_7 S_7 hbw7 hb8
      go_wp2_with fail
      go_ret
      exact ⟨rfl, hbw8⟩
    · have HO : Hid (bokB L = true) := by have := HL.out; subst this; exact bmove_bok a f
      have HI : Hid (∀ x y : Int, okB x y = true → askedB f x y = true → itemsL a x y = itemsL L x y) := by
        have ha := hd.abs hk
        have := HL.out
        subst this
        exact fun x y hx hc => move_items hf hk (by omega) hx hc
      go_wp2_with fail
      refine (specRowsOk_eq hk R_4).mono ?_
      rintro e w5 ⟨rfl, hb5⟩
      have R_5 := R_4.keep hb5
      have T_5 := T_4.keep hb5
      have X_5 := X_4.keep hb5
      have hbw5 := bStep hbw4 hb5
      clear R_4 T_4 X_4 hbw4 hb5
      go_wp2_with fail
      refine (specFrontOk_eq hf T_5).mono ?_
      rintro e w6 ⟨rfl, hb6⟩
      have R_6 := R_5.keep hb6
      have T_6 := T_5.keep hb6
      have X_6 := X_5.keep hb6
      have hbw6 := bStep hbw5 hb6
      clear R_5 T_5 X_5 hbw5 hb6
      go_wp2_with fail
      refine (implBatchOk_eq HO.out X_6).mono ?_
      rintro e w7 ⟨rfl, hb7⟩
      have R_7 := R_6.keep hb7
      have T_7 := T_6.keep hb7
      have X_7 := X_6.keep hb7
      have hbw7 := bStep hbw6 hb7
      clear R_6 T_6 X_6 hbw6 hb7
      go_wp2_with fail
      refine (lwSame_any _ _ _ a L f _ R_7 X_7 T_7 HI.out).mono ?_
      rintro e w8 ⟨rfl, hb8⟩
      have R_8 := R_7.keep hb8
      have T_8 := T_7.keep hb8
      have X_8 := X_7.keep hb8
      have hbw8 := bStep hbw7 hb8
      clear R_7 T_7 X_7 hbw7 hb8
      go_wp2_with fail
      go_ret
      exact ⟨rfl, hbw8⟩
end FnBatchMove
namespace RowFnBatchMove
theorem own : ownKnob Try.prog.godebug = none := by kernel_rfl
set_option maxRecDepth 100000 in
theorem lifted (os : Os) (started : os.Started) (H : Type) (enc : TypeId × Value → H) :
    ReturnsInHanded {} Try.checked os 7 .any (Rows.fnBatchMoveSpec.pre6 enc Try.prog Try.f7 Rows.fnBatchMoveRow.domain false) (Rows.fnBatchMoveSpec.post enc Try.prog Try.f7 false true false false) := by
  refine returnsInHanded_of_change (C := Try.checked) own started (by kernel_rfl) Try.func7
    (ChangeSpec.witness6 (enc := enc) (C := Try.checked) false ⟨#[], #[.slice none 0 0], []⟩ 8 (by kernel_rfl) (by kernel_rfl) (by kernel_rfl) (by kernel_rfl)) ?_
  intro W base args ds gs before hval0 hW hcnd _
  have hval : ∀ (j : Nat) t v, Try.f7.params[j]? = some t → args[j]? = some v → Value.okWide Try.prog W .any base t v := hval0
  have hW' := hW
  obtain ⟨p, q, hA0, hV, rfl, hfz, hnd⟩ := hW
  have hA : DataW.TrodAll enc Try.prog W 0 (fun _ => true) true Try.f7.params.toList args.toList ds p := hA0
  rw [Try.params7] at hA hval
  obtain ⟨v0, vs0, d0, ds0, p0, q0, hargs, rfl, rfl, h0, r0⟩ := trodAll_cons hA
  obtain ⟨rfl, rfl, rfl⟩ := trodAll_nil r0
  obtain rfl : args = #[v0] := by cases args; simp_all
  obtain ⟨rfl, rfl⟩ := trodVars_none hV
  obtain ⟨a0, len0, cap0, rfl⟩ := okWide_slice Try.underlying22 (hval 0 22 v0 rfl rfl)
  have k0 := h0
  have lt0 : ∀ x ∈ p0, x.block < W.heap.size := by obtain ⟨m, hm⟩ := k0; exact DataW.trod_lt m _ _ _ hm
  have w0 : Src W (.slice a0 len0 cap0) len0 := by
    obtain ⟨fuel, hf⟩ := h0
    rcases open_ints Try.underlying22 Try.underlying5 (by kernel_rfl) hf with ⟨hcs, _⟩ | ⟨x, l, c, zs, hcs, _, hl, hm, hz, _, hcell, hwz⟩
    · simp [Value.cells] at hcs
      obtain ⟨rfl, rfl, rfl⟩ := hcs
      exact Src.nil _
    · simp [Value.cells] at hcs
      obtain ⟨rfl, rfl, rfl⟩ := hcs
      exact Src.of_row hl hm (by simpa using hz) hcell hwz
  clear hA0 hval0
  refine (FnBatchMove.walk a0 len0 cap0 W w0).mono fun e W' ⟨he, bel⟩ => ?_
  subst he
  exact ⟨_, rfl, _, _, _, [], _, [], hW', trodAll_mk1 (shut_bool Try.underlying4 _), (trodAll_cons_mk (Below.trod pfLaid (by kernel_rfl) (of_decide_eq_true (by kernel_rfl)) k0 bel lt0) trodAll_mk0), rfl, bel.frame _, fun h => by cases h⟩
set_option maxHeartbeats 4000000 in
theorem closed : joinedFacts Try.prog 7 Try.f7 Rows.fnBatchMoveSpec Rows.fnBatchMoveRow = true := by
  unfold joinedFacts
  exact (andB (andB (andB (andB (andB (andB (andB (andB (andB (andB (andB (andB (andB (andB (andB (andB (andB (andB (andB (andB (andB (andB (andB (andB (andB (andB (andB (andB (andB (andB (andB (by as_aux_lemma => kernel_rfl) pfLaid) pfRowed) (by as_aux_lemma => kernel_rfl)) (by as_aux_lemma => kernel_rfl)) (by as_aux_lemma => kernel_rfl)) (by as_aux_lemma => kernel_rfl)) (by as_aux_lemma => kernel_rfl)) (by as_aux_lemma => kernel_rfl)) (by as_aux_lemma => kernel_rfl)) (by as_aux_lemma => kernel_rfl)) (by as_aux_lemma => kernel_rfl)) (by as_aux_lemma => kernel_rfl)) (by as_aux_lemma => kernel_rfl)) (by as_aux_lemma => kernel_rfl)) (by as_aux_lemma => kernel_rfl)) (by as_aux_lemma => kernel_rfl)) (by as_aux_lemma => kernel_rfl)) (by as_aux_lemma => kernel_rfl)) (by as_aux_lemma => kernel_rfl)) (by as_aux_lemma => kernel_rfl)) (by as_aux_lemma => kernel_rfl)) (by as_aux_lemma => kernel_rfl)) (by as_aux_lemma => kernel_rfl)) pfHeard) pfEnter) (pfLiftB rfl)) (pfMakeB rfl)) (by as_aux_lemma => kernel_rfl)) (by as_aux_lemma => kernel_rfl)) (by as_aux_lemma => kernel_rfl)) (by as_aux_lemma => kernel_rfl))
theorem over : Rows.fnBatchMoveRow.holds Try.pinned (OpenSpec.ofChange Rows.fnBatchMoveSpec) :=
  OpenClaim.holds_of_wide 7 Try.f7 rfl rfl rfl rfl rfl rfl rfl ⟨rfl, rfl, rfl, rfl, rfl⟩ rfl rfl rfl rfl rfl (by kernel_rfl) Try.func7 closed
    (of_decide_eq_true (by kernel_rfl)) (by unfold Func.isWrapper; first | (rw [if_pos (by decide +kernel)]; kernel_rfl) | (rw [if_neg (by decide +kernel)]; exact ⟨rfl, rfl⟩))
    (fun os started H enc _ => lifted os started H enc)
end RowFnBatchMove
theorem fnBatchMove_holds : Rows.FnBatchMoveSaid := RowFnBatchMove.over
end Go.Proofs.Ytebgjpghccnfcaa
