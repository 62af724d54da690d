/- For all bytes: of the rows that they draw BatchOk and BatchOf of the program answer as the model's, a batch of the batch is that, and rows are their own batch just if they are one; the argument reads afterwards as before. No condition. -/
import Derived.Test.YtebgjpghccnfcaaPf
import Derived.Test.YtebgjpghccnfcaaGd3
namespace Go.Proofs.Ytebgjpghccnfcaa
open Go.ChangeShapes Go.WideShapes Go.ChangeAt Go.RowKit Go.Joins

namespace FnBatchTwice
set_option maxRecDepth 100000 in
set_option maxHeartbeats 8000000 in
theorem walk (x0 : Option Addr) (len0 cap0 : Nat) (w : World) (h0 : Src w (.slice x0 len0 cap0) len0) :
    Calls Try.prog 4 #[.slice x0 len0 cap0] w fun e w' => e = .returned (.bool true) ∧ Below w.heap.size w w' := by
  by_cases g0 : (1048576 : Int) < (len0 : Int)
  · go_enter Try.func4, Try.ntmps4
    go_wp2_with fail
    go_ret
    exact ⟨rfl, Below.refl _ _⟩
  go_enter Try.func4, Try.ntmps4
  go_wp2_with fail
  refine (drawBatchOk_any _ _ _ _ h0).mono ?_
  rintro e w1 ⟨o, l, rfl, hl, R_1, hb1⟩
  have hbw1 := hb1
  clear h0 hb1
  obtain ⟨L, hL_L⟩ : ∃ zz, batchL l = zz := ⟨_, rfl⟩
  have HL : Hid (batchL l = L) := hL_L
  clear hL_L
  cases hk : bokB l
  · have HN : Hid (decide (L = l) = false) := by have := HL.out; subst this; exact decide_eq_false (batch_ne hk)
    have HT : Hid (batchL L = L) := by have := HL.out; subst this; exact batch_twice l
    go_wp2_with fail
    refine (implBatchOk_eq hk R_1).mono ?_
    rintro e w2 ⟨rfl, hb2⟩
    have R_2 := R_1.keep hb2
    have hbw2 := bStep hbw1 hb2
    clear R_1 hbw1 hb2
    go_wp2_with fail
    refine (implBatchOf_k HL.out R_2).mono ?_
    rintro e w3 ⟨ob, rfl, B_3, hb3⟩
    have R_3 := R_2.keep hb3
    have hbw3 := bStep hbw2 hb3
    clear R_2 hbw2 hb3
    go_wp2_with fail
    refine (specBatchOk_eq hk R_3).mono ?_
    rintro e w4 ⟨rfl, hb4⟩
    have R_4 := R_3.keep hb4
    have B_4 := B_3.keep hb4
    have hbw4 := bStep hbw3 hb4
    clear R_3 B_3 hbw3 hb4
    go_wp2_with fail
    refine (specBatchOf_k HL.out R_4).mono ?_
    rintro e w5 ⟨os, rfl, S_5, hb5⟩
    have R_5 := R_4.keep hb5
    have B_5 := B_4.keep hb5
    have hbw5 := bStep hbw4 hb5
    clear R_4 B_4 hbw4 hb5
    go_wp2_with fail
    refine (lwRows_eq (selfR _) B_5 S_5).mono ?_
    rintro e w6 ⟨rfl, hb6⟩
    have R_6 := R_5.keep hb6
    have B_6 := B_5.keep hb6
    have hbw6 := bStep hbw5 hb6
    clear R_5 B_5 S_5 hbw5 hb6
    go_wp2_with fail
    refine (implBatchOf_k HT.out B_6).mono ?_
    rintro e w7 ⟨oc, rfl, C_7, hb7⟩
    have R_7 := R_6.keep hb7
    have B_7 := B_6.keep hb7
    have hbw7 := bStep hbw6 hb7
    clear R_6 B_6 hbw6 hb7
    go_wp2_with fail
    refine (lwRows_eq (selfR _) C_7 B_7).mono ?_
    rintro e w8 ⟨rfl, hb8⟩
    have R_8 := R_7.keep hb8
    have B_8 := B_7.keep hb8
    have hbw8 := bStep hbw7 hb8
    clear R_7 B_7 C_7 hbw7 hb8
    cases hr : rokB l
    · go_wp2_with fail
      refine (specRowsOk_eq hr R_8).mono ?_
      rintro e w9 ⟨rfl, hb9⟩
      have R_9 := R_8.keep hb9
      have B_9 := B_8.keep hb9
      have hbw9 := bStep hbw8 hb9
      clear R_8 B_8 hbw8 hb9
      go_wp2_with fail
      go_ret
      exact ⟨rfl, hbw9⟩
    · go_wp2_with fail
      refine (specRowsOk_eq hr R_8).mono ?_
      rintro e w9 ⟨rfl, hb9⟩
      have R_9 := R_8.keep hb9
      have B_9 := B_8.keep hb9
      have hbw9 := bStep hbw8 hb9
      clear R_8 B_8 hbw8 hb9
      go_wp2_with fail
      refine (lwRows_eq HN.out B_9 R_9).mono ?_
      rintro e w10 ⟨rfl, hb10⟩
      have R_10 := R_9.keep hb10
      have B_10 := B_9.keep hb10
      have hbw10 := bStep hbw9 hb10
      clear R_9 B_9 hbw9 hb10
      go_wp2_with fail
      go_ret
      exact ⟨rfl, hbw10⟩
  · have HY : Hid (decide (L = l) = true) := by have := HL.out; subst this; exact decide_eq_true (batch_self hk)
    have HT : Hid (batchL L = L) := by have := HL.out; subst this; exact batch_twice l
    go_wp2_with fail
    refine (implBatchOk_eq hk R_1).mono ?_
    rintro e w2 ⟨rfl, hb2⟩
    have R_2 := R_1.keep hb2
    have hbw2 := bStep hbw1 hb2
    clear R_1 hbw1 hb2
    go_wp2_with fail
    refine (implBatchOf_k HL.out R_2).mono ?_
    rintro e w3 ⟨ob, rfl, B_3, hb3⟩
    have R_3 := R_2.keep hb3
    have hbw3 := bStep hbw2 hb3
    clear R_2 hbw2 hb3
    go_wp2_with fail
    refine (specBatchOk_eq hk R_3).mono ?_
    rintro e w4 ⟨rfl, hb4⟩
    have R_4 := R_3.keep hb4
    have B_4 := B_3.keep hb4
    have hbw4 := bStep hbw3 hb4
    clear R_3 B_3 hbw3 hb4
    go_wp2_with fail
    refine (specBatchOf_k HL.out R_4).mono ?_
    rintro e w5 ⟨os, rfl, S_5, hb5⟩
    have R_5 := R_4.keep hb5
    have B_5 := B_4.keep hb5
    have hbw5 := bStep hbw4 hb5
    clear R_4 B_4 hbw4 hb5
    go_wp2_with fail
    refine (lwRows_eq (selfR _) B_5 S_5).mono ?_
    rintro e w6 ⟨rfl, hb6⟩
    have R_6 := R_5.keep hb6
    have B_6 := B_5.keep hb6
    have hbw6 := bStep hbw5 hb6
    clear R_5 B_5 S_5 hbw5 hb6
    go_wp2_with fail
    refine (implBatchOf_k HT.out B_6).mono ?_
    rintro e w7 ⟨oc, rfl, C_7, hb7⟩
    have R_7 := R_6.keep hb7
    have B_7 := B_6.keep hb7
    have hbw7 := bStep hbw6 hb7
    clear R_6 B_6 hbw6 hb7
    go_wp2_with fail
    refine (lwRows_eq (selfR _) C_7 B_7).mono ?_
    rintro e w8 ⟨rfl, hb8⟩
    have R_8 := R_7.keep hb8
    have B_8 := B_7.keep hb8
    have hbw8 := bStep hbw7 hb8
    clear R_7 B_7 C_7 hbw7 hb8
    go_wp2_with fail
    refine (lwRows_eq HY.out B_8 R_8).mono ?_
    rintro e w9 ⟨rfl, hb9⟩
    have R_9 := R_8.keep hb9
    have B_9 := B_8.keep hb9
    have hbw9 := bStep hbw8 hb9
    clear R_8 B_8 hbw8 hb9
    go_wp2_with fail
    go_ret
    exact ⟨rfl, hbw9⟩
end FnBatchTwice
namespace RowFnBatchTwice
theorem own : ownKnob Try.prog.godebug = none := by kernel_rfl
set_option maxRecDepth 100000 in
theorem lifted (os : Os) (started : os.Started) (H : Type) (enc : TypeId × Value → H) :
    ReturnsInHanded {} Try.checked os 4 .any (Rows.fnBatchTwiceSpec.pre6 enc Try.prog Try.f4 Rows.fnBatchTwiceRow.domain false) (Rows.fnBatchTwiceSpec.post enc Try.prog Try.f4 false true false false) := by
  refine returnsInHanded_of_change (C := Try.checked) own started (by kernel_rfl) Try.func4
    (ChangeSpec.witness6 (enc := enc) (C := Try.checked) false ⟨#[], #[.slice none 0 0], []⟩ 8 (by kernel_rfl) (by kernel_rfl) (by kernel_rfl) (by kernel_rfl)) ?_
  intro W base args ds gs before hval0 hW hcnd _
  have hval : ∀ (j : Nat) t v, Try.f4.params[j]? = some t → args[j]? = some v → Value.okWide Try.prog W .any base t v := hval0
  have hW' := hW
  obtain ⟨p, q, hA0, hV, rfl, hfz, hnd⟩ := hW
  have hA : DataW.TrodAll enc Try.prog W 0 (fun _ => true) true Try.f4.params.toList args.toList ds p := hA0
  rw [Try.params4] at hA hval
  obtain ⟨v0, vs0, d0, ds0, p0, q0, hargs, rfl, rfl, h0, r0⟩ := trodAll_cons hA
  obtain ⟨rfl, rfl, rfl⟩ := trodAll_nil r0
  obtain rfl : args = #[v0] := by cases args; simp_all
  obtain ⟨rfl, rfl⟩ := trodVars_none hV
  obtain ⟨a0, len0, cap0, rfl⟩ := okWide_slice Try.underlying22 (hval 0 22 v0 rfl rfl)
  have k0 := h0
  have lt0 : ∀ x ∈ p0, x.block < W.heap.size := by obtain ⟨m, hm⟩ := k0; exact DataW.trod_lt m _ _ _ hm
  have w0 : Src W (.slice a0 len0 cap0) len0 := by
    obtain ⟨fuel, hf⟩ := h0
    rcases open_ints Try.underlying22 Try.underlying5 (by kernel_rfl) hf with ⟨hcs, _⟩ | ⟨x, l, c, zs, hcs, _, hl, hm, hz, _, hcell, hwz⟩
    · simp [Value.cells] at hcs
      obtain ⟨rfl, rfl, rfl⟩ := hcs
      exact Src.nil _
    · simp [Value.cells] at hcs
      obtain ⟨rfl, rfl, rfl⟩ := hcs
      exact Src.of_row hl hm (by simpa using hz) hcell hwz
  clear hA0 hval0
  refine (FnBatchTwice.walk a0 len0 cap0 W w0).mono fun e W' ⟨he, bel⟩ => ?_
  subst he
  exact ⟨_, rfl, _, _, _, [], _, [], hW', trodAll_mk1 (shut_bool Try.underlying4 _), (trodAll_cons_mk (Below.trod pfLaid (by kernel_rfl) (of_decide_eq_true (by kernel_rfl)) k0 bel lt0) trodAll_mk0), rfl, bel.frame _, fun h => by cases h⟩
set_option maxHeartbeats 4000000 in
theorem closed : joinedFacts Try.prog 4 Try.f4 Rows.fnBatchTwiceSpec Rows.fnBatchTwiceRow = true := by
  unfold joinedFacts
  exact (andB (andB (andB (andB (andB (andB (andB (andB (andB (andB (andB (andB (andB (andB (andB (andB (andB (andB (andB (andB (andB (andB (andB (andB (andB (andB (andB (andB (andB (andB (andB (by as_aux_lemma => kernel_rfl) pfLaid) pfRowed) (by as_aux_lemma => kernel_rfl)) (by as_aux_lemma => kernel_rfl)) (by as_aux_lemma => kernel_rfl)) (by as_aux_lemma => kernel_rfl)) (by as_aux_lemma => kernel_rfl)) (by as_aux_lemma => kernel_rfl)) (by as_aux_lemma => kernel_rfl)) (by as_aux_lemma => kernel_rfl)) (by as_aux_lemma => kernel_rfl)) (by as_aux_lemma => kernel_rfl)) (by as_aux_lemma => kernel_rfl)) (by as_aux_lemma => kernel_rfl)) (by as_aux_lemma => kernel_rfl)) (by as_aux_lemma => kernel_rfl)) (by as_aux_lemma => kernel_rfl)) (by as_aux_lemma => kernel_rfl)) (by as_aux_lemma => kernel_rfl)) (by as_aux_lemma => kernel_rfl)) (by as_aux_lemma => kernel_rfl)) (by as_aux_lemma => kernel_rfl)) (by as_aux_lemma => kernel_rfl)) pfHeard) pfEnter) (pfLiftB rfl)) (pfMakeB rfl)) (by as_aux_lemma => kernel_rfl)) (by as_aux_lemma => kernel_rfl)) (by as_aux_lemma => kernel_rfl)) (by as_aux_lemma => kernel_rfl))
theorem over : Rows.fnBatchTwiceRow.holds Try.pinned (OpenSpec.ofChange Rows.fnBatchTwiceSpec) :=
  OpenClaim.holds_of_wide 4 Try.f4 rfl rfl rfl rfl rfl rfl rfl ⟨rfl, rfl, rfl, rfl, rfl⟩ rfl rfl rfl rfl rfl (by kernel_rfl) Try.func4 closed
    (of_decide_eq_true (by kernel_rfl)) (by unfold Func.isWrapper; first | (rw [if_pos (by decide +kernel)]; kernel_rfl) | (rw [if_neg (by decide +kernel)]; exact ⟨rfl, rfl⟩))
    (fun os started H enc _ => lifted os started H enc)
end RowFnBatchTwice
theorem fnBatchTwice_holds : Rows.FnBatchTwiceSaid := RowFnBatchTwice.over
end Go.Proofs.Ytebgjpghccnfcaa
