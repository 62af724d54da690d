/- For all bytes: FlowSum of the program makes of the rows that they draw, by the kind that they draw, what the model makes of them; once of once is once, the least of once is the least, and of the least it is that; the argument reads afterwards as before. No condition. -/
import Derived.Test.YtpjmkejojenflaaGreatPf
import Derived.Test.YtpjmkejojenflaaGreatK9
namespace Go.Proofs.YtpjmkejojenflaaGreat
open Go.ChangeShapes Go.WideShapes Go.ChangeAt Go.RowKit Go.Joins

namespace FnFlowOnce
set_option maxRecDepth 100000 in
set_option maxHeartbeats 8000000 in
theorem walk (x0 : Option Addr) (len0 cap0 : Nat) (w : World) (h0 : Src w (.slice x0 len0 cap0) len0) :
    Calls Tryz.prog 7 #[.slice x0 len0 cap0] w fun e w' => e = .returned (.bool true) ∧ Below w.heap.size w w' := by
  by_cases g0 : (1048576 : Int) < (len0 : Int)
  · go_enter Tryz.func7, Tryz.ntmps7
    go_wp2_with fail
    go_ret
    exact ⟨rfl, Below.refl _ _⟩
  go_enter Tryz.func7, Tryz.ntmps7
  go_wp2_with fail
  refine (drawFlowSum_any _ _ _ _ h0).mono ?_
  rintro e w1 ⟨oa, a, kind, rfl, hd, R_1, hb1⟩
  have hbw1 := hb1
  clear h0 hb1
  obtain ⟨L, hL_L⟩ : ∃ zz, fsumL a kind = zz := ⟨_, rfl⟩
  have HL : Hid (fsumL a kind = L) := hL_L
  clear hL_L
  go_wp2_with fail
  refine (implFlowSum_k HL.out R_1).mono ?_
  rintro e w2 ⟨ox, rfl, X_2, hb2⟩
  have R_2 := R_1.keep hb2
  have hbw2 := bStep hbw1 hb2
  clear R_1 hbw1 hb2
  go_wp2_with fail
  refine (specFlowSum_k HL.out R_2).mono ?_
  rintro e w3 ⟨os, rfl, S_3, hb3⟩
  have R_3 := R_2.keep hb3
  have X_3 := X_2.keep hb3
  have hbw3 := bStep hbw2 hb3
  clear R_2 X_2 hbw2 hb3
  go_wp2_with fail
  refine (lwRows_eq (selfR _) X_3 S_3).mono ?_
  rintro e w4 ⟨rfl, hb4⟩
  have R_4 := R_3.keep hb4
  have X_4 := X_3.keep hb4
  have hbw4 := bStep hbw3 hb4
  clear R_3 X_3 S_3 hbw3 hb4
  cases hk : rokB a
  · go_wp2_with fail
    refine (specRowsOk_eq hk R_4).mono ?_
    rintro e w5 ⟨rfl, hb5⟩
    have R_5 := R_4.keep hb5
    have X_5 := X_4.keep hb5
    have hbw5 := bStep hbw4 hb5
    clear R_4 X_4 hbw4 hb5
    go_wp2_with fail
    refine (specFlowSum_k HL.out R_5).mono ?_
    rintro e w6 ⟨os, rfl, S_6, hb6⟩
    have R_6 := R_5.keep hb6
    have X_6 := X_5.keep hb6
    have hbw6 := bStep hbw5 hb6
    clear R_5 X_5 hbw5 hb6
    go_wp2_with fail
    refine (lwRows_eq (selfR _) X_6 S_6).mono ?_
    rintro e w7 ⟨rfl, hb7⟩
    have R_7 := R_6.keep hb7
    have X_7 := X_6.keep hb7
    have S_7 := S_6.keep hb7
    have hbw7 := bStep hbw6 hb7
    clear R_6 X_6 S_6 hbw6 hb7
    go_wp2_with fail
    go_ret
    exact ⟨rfl, hbw7⟩
  · obtain ⟨O, hL_O⟩ : ∃ zz, fsumL a 2 = zz := ⟨_, rfl⟩
    have HO : Hid (fsumL a 2 = O) := hL_O
    clear hL_O
    obtain ⟨M, hL_M⟩ : ∃ zz, fsumL a 3 = zz := ⟨_, rfl⟩
    have HM : Hid (fsumL a 3 = M) := hL_M
    clear hL_M
    have HJ := fsum_once hk hd.1
    have H1 : Hid (fsumL O 2 = O) := by have e1 := HO.out; subst e1; exact HJ.1
    have H2 : Hid (fsumL O 3 = M) := by have e1 := HO.out; have e2 := HM.out; subst e1 e2; exact HJ.2.1
    have H3 : Hid (fsumL M 3 = M) := by have e2 := HM.out; subst e2; exact HJ.2.2
    clear HJ
    go_wp2_with fail
    refine (specRowsOk_eq hk R_4).mono ?_
    rintro e w5 ⟨rfl, hb5⟩
    have R_5 := R_4.keep hb5
    have X_5 := X_4.keep hb5
    have hbw5 := bStep hbw4 hb5
    clear R_4 X_4 hbw4 hb5
    go_wp2_with fail
    refine (implFlowSum_k HO.out R_5).mono ?_
    rintro e w6 ⟨oo, rfl, O_6, hb6⟩
    have R_6 := R_5.keep hb6
    have X_6 := X_5.keep hb6
    have hbw6 := bStep hbw5 hb6
    clear R_5 X_5 hbw5 hb6
    go_wp2_with fail
    refine (implFlowSum_k HM.out R_6).mono ?_
    rintro e w7 ⟨om, rfl, M_7, hb7⟩
    have R_7 := R_6.keep hb7
    have X_7 := X_6.keep hb7
    have O_7 := O_6.keep hb7
    have hbw7 := bStep hbw6 hb7
    clear R_6 X_6 O_6 hbw6 hb7
    go_wp2_with fail
    refine (implFlowSum_k H1.out O_7).mono ?_
    rintro e w8 ⟨op, rfl, P_8, hb8⟩
    have R_8 := R_7.keep hb8
    have X_8 := X_7.keep hb8
    have O_8 := O_7.keep hb8
    have M_8 := M_7.keep hb8
    have hbw8 := bStep hbw7 hb8
    clear R_7 X_7 O_7 M_7 hbw7 hb8
    go_wp2_with fail
    refine (lwRows_eq (selfR _) P_8 O_8).mono ?_
    rintro e w9 ⟨rfl, hb9⟩
    have R_9 := R_8.keep hb9
    have X_9 := X_8.keep hb9
    have O_9 := O_8.keep hb9
    have M_9 := M_8.keep hb9
    have hbw9 := bStep hbw8 hb9
    clear R_8 X_8 O_8 M_8 P_8 hbw8 hb9
    go_wp2_with fail
    refine (implFlowSum_k H2.out O_9).mono ?_
    rintro e w10 ⟨op, rfl, P_10, hb10⟩
    have R_10 := R_9.keep hb10
    have X_10 := X_9.keep hb10
    have O_10 := O_9.keep hb10
    have M_10 := M_9.keep hb10
    have hbw10 := bStep hbw9 hb10
    clear R_9 X_9 O_9 M_9 hbw9 hb10
    go_wp2_with fail
    refine (lwRows_eq (selfR _) P_10 M_10).mono ?_
    rintro e w11 ⟨rfl, hb11⟩
    have R_11 := R_10.keep hb11
    have X_11 := X_10.keep hb11
    have O_11 := O_10.keep hb11
    have M_11 := M_10.keep hb11
    have hbw11 := bStep hbw10 hb11
    clear R_10 X_10 O_10 M_10 P_10 hbw10 hb11
    go_wp2_with fail
    refine (implFlowSum_k H3.out M_11).mono ?_
    rintro e w12 ⟨op, rfl, P_12, hb12⟩
    have R_12 := R_11.keep hb12
    have X_12 := X_11.keep hb12
    have O_12 := O_11.keep hb12
    have M_12 := M_11.keep hb12
    have hbw12 := bStep hbw11 hb12
    clear R_11 X_11 O_11 M_11 hbw11 hb12
    go_wp2_with fail
    refine (lwRows_eq (selfR _) P_12 M_12).mono ?_
    rintro e w13 ⟨rfl, hb13⟩
    have R_13 := R_12.keep hb13
    have X_13 := X_12.keep hb13
    have O_13 := O_12.keep hb13
    have M_13 := M_12.keep hb13
    have hbw13 := bStep hbw12 hb13
    clear R_12 X_12 O_12 M_12 P_12 hbw12 hb13
    go_wp2_with fail
    go_ret
    exact ⟨rfl, hbw13⟩
end FnFlowOnce
namespace RowFnFlowOnce
theorem own : ownKnob Tryz.prog.godebug = none := by kernel_rfl
set_option maxRecDepth 100000 in
theorem lifted (os : Os) (started : os.Started) (H : Type) (enc : TypeId × Value → H) :
    ReturnsInHanded {} Tryz.checked os 7 .any (Rows.fnFlowOnceSpec.pre6 enc Tryz.prog Tryz.f7 Rows.fnFlowOnceRow.domain false) (Rows.fnFlowOnceSpec.post enc Tryz.prog Tryz.f7 false true false false) := by
  refine returnsInHanded_of_change (C := Tryz.checked) own started (by kernel_rfl) Tryz.func7
    (ChangeSpec.witness6 (enc := enc) (C := Tryz.checked) false ⟨#[], #[.slice none 0 0], []⟩ 8 (by kernel_rfl) (by kernel_rfl) (by kernel_rfl) (by kernel_rfl)) ?_
  intro W base args ds gs before hval0 hW hcnd _
  have hval : ∀ (j : Nat) t v, Tryz.f7.params[j]? = some t → args[j]? = some v → Value.okWide Tryz.prog W .any base t v := hval0
  have hW' := hW
  obtain ⟨p, q, hA0, hV, rfl, hfz, hnd⟩ := hW
  have hA : DataW.TrodAll enc Tryz.prog W 0 (fun _ => true) true Tryz.f7.params.toList args.toList ds p := hA0
  rw [Tryz.params7] at hA hval
  obtain ⟨v0, vs0, d0, ds0, p0, q0, hargs, rfl, rfl, h0, r0⟩ := trodAll_cons hA
  obtain ⟨rfl, rfl, rfl⟩ := trodAll_nil r0
  obtain rfl : args = #[v0] := by cases args; simp_all
  obtain ⟨rfl, rfl⟩ := trodVars_none hV
  obtain ⟨a0, len0, cap0, rfl⟩ := okWide_slice Tryz.underlying22 (hval 0 22 v0 rfl rfl)
  have k0 := h0
  have lt0 : ∀ x ∈ p0, x.block < W.heap.size := by obtain ⟨m, hm⟩ := k0; exact DataW.trod_lt m _ _ _ hm
  have w0 : Src W (.slice a0 len0 cap0) len0 := by
    obtain ⟨fuel, hf⟩ := h0
    rcases open_ints Tryz.underlying22 Tryz.underlying5 (by kernel_rfl) hf with ⟨hcs, _⟩ | ⟨x, l, c, zs, hcs, _, hl, hm, hz, _, hcell, hwz⟩
    · simp [Value.cells] at hcs
      obtain ⟨rfl, rfl, rfl⟩ := hcs
      exact Src.nil _
    · simp [Value.cells] at hcs
      obtain ⟨rfl, rfl, rfl⟩ := hcs
      exact Src.of_row hl hm (by simpa using hz) hcell hwz
  clear hA0 hval0
  refine (FnFlowOnce.walk a0 len0 cap0 W w0).mono fun e W' ⟨he, bel⟩ => ?_
  subst he
  exact ⟨_, rfl, _, _, _, [], _, [], hW', trodAll_mk1 (shut_bool Tryz.underlying4 _), (trodAll_cons_mk (Below.trod pfLaid (by kernel_rfl) (of_decide_eq_true (by kernel_rfl)) k0 bel lt0) trodAll_mk0), rfl, bel.frame _, fun h => by cases h⟩
set_option maxHeartbeats 4000000 in
theorem closed : joinedFacts Tryz.prog 7 Tryz.f7 Rows.fnFlowOnceSpec Rows.fnFlowOnceRow = true := by
  unfold joinedFacts
  exact (andB (andB (andB (andB (andB (andB (andB (andB (andB (andB (andB (andB (andB (andB (andB (andB (andB (andB (andB (andB (andB (andB (andB (andB (andB (andB (andB (andB (andB (andB (andB (by as_aux_lemma => kernel_rfl) pfLaid) pfRowed) (by as_aux_lemma => kernel_rfl)) (by as_aux_lemma => kernel_rfl)) (by as_aux_lemma => kernel_rfl)) (by as_aux_lemma => kernel_rfl)) (by as_aux_lemma => kernel_rfl)) (by as_aux_lemma => kernel_rfl)) (by as_aux_lemma => kernel_rfl)) (by as_aux_lemma => kernel_rfl)) (by as_aux_lemma => kernel_rfl)) (by as_aux_lemma => kernel_rfl)) (by as_aux_lemma => kernel_rfl)) (by as_aux_lemma => kernel_rfl)) (by as_aux_lemma => kernel_rfl)) (by as_aux_lemma => kernel_rfl)) (by as_aux_lemma => kernel_rfl)) (by as_aux_lemma => kernel_rfl)) (by as_aux_lemma => kernel_rfl)) (by as_aux_lemma => kernel_rfl)) (by as_aux_lemma => kernel_rfl)) (by as_aux_lemma => kernel_rfl)) (by as_aux_lemma => kernel_rfl)) pfHeard) pfEnter) (pfLiftB rfl)) (pfMakeB rfl)) (by as_aux_lemma => kernel_rfl)) (by as_aux_lemma => kernel_rfl)) (by as_aux_lemma => kernel_rfl)) (by as_aux_lemma => kernel_rfl))
theorem over : Rows.fnFlowOnceRow.holds Tryz.pinned (OpenSpec.ofChange Rows.fnFlowOnceSpec) :=
  OpenClaim.holds_of_wide 7 Tryz.f7 rfl rfl rfl rfl rfl rfl rfl ⟨rfl, rfl, rfl, rfl, rfl⟩ rfl rfl rfl rfl rfl (by kernel_rfl) Tryz.func7 closed
    (of_decide_eq_true (by kernel_rfl)) (by unfold Func.isWrapper; first | (rw [if_pos (by decide +kernel)]; kernel_rfl) | (rw [if_neg (by decide +kernel)]; exact ⟨rfl, rfl⟩))
    (fun os started H enc _ => lifted os started H enc)
end RowFnFlowOnce
theorem fnFlowOnce_holds : Rows.FnFlowOnceSaid := RowFnFlowOnce.over
end Go.Proofs.YtpjmkejojenflaaGreat
