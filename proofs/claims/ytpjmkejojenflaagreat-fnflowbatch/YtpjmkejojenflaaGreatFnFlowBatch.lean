/- For all bytes, twice: FlowEach of the program makes of the rows that they draw, by the way that they draw, what the model makes of them; that, what FlowSum and FlowJoin make of them, and both together, are batches; the arguments read afterwards as before. No condition. -/
import Derived.Test.YtpjmkejojenflaaGreatPf
import Derived.Test.YtpjmkejojenflaaGreatK9
import Derived.Test.YtpjmkejojenflaaGreatGj5
import Derived.Test.YtpjmkejojenflaaGreatGe2
import Derived.Test.YtpjmkejojenflaaGreatGd6
namespace Go.Proofs.YtpjmkejojenflaaGreat
open Go.ChangeShapes Go.WideShapes Go.ChangeAt Go.RowKit Go.Joins

namespace FnFlowBatch
set_option maxRecDepth 100000 in
set_option maxHeartbeats 8000000 in
theorem walk (x0 : Option Addr) (len0 cap0 : Nat) (x1 : Option Addr) (len1 cap1 : Nat) (w : World) (h0 : Src w (.slice x0 len0 cap0) len0) (h1 : Src w (.slice x1 len1 cap1) len1) :
    Calls Tryz.prog 9 #[.slice x0 len0 cap0, .slice x1 len1 cap1] w fun e w' => e = .returned (.bool true) ∧ Below w.heap.size w w' := by
  by_cases g0 : (1048576 : Int) < (len0 : Int)
  · go_enter Tryz.func9, Tryz.ntmps9
    go_wp2_with fail
    go_ret
    exact ⟨rfl, Below.refl _ _⟩
  by_cases g1 : (1048576 : Int) < (len1 : Int)
  · go_enter Tryz.func9, Tryz.ntmps9
    go_wp2_with fail
    go_ret
    exact ⟨rfl, Below.refl _ _⟩
  go_enter Tryz.func9, Tryz.ntmps9
  go_wp2_with fail
  refine (drawFlowEach_any _ _ _ _ h0).mono ?_
  rintro e w1 ⟨oa, a, how, rfl, hd, R_1, hb1⟩
  have h1_1 := h1.keep hb1
  have hbw1 := hb1
  clear h0 h1 hb1
  obtain ⟨L, hL_L⟩ : ∃ zz, feachL a how = zz := ⟨_, rfl⟩
  have HL : Hid (feachL a how = L) := hL_L
  clear hL_L
  go_wp2_with fail
  refine (implFlowEach_k HL.out R_1).mono ?_
  rintro e w2 ⟨ox, rfl, X_2, hb2⟩
  have R_2 := R_1.keep hb2
  have hbw2 := bStep hbw1 hb2
  clear h1_1 R_1 hbw1 hb2
  have m0 : (0 : Int) ≤ (len1 : Int) % 3 := by omega
  have m1 : (len1 : Int) % 3 < 3 := by omega
  go_wp2_with fail
  generalize hH : (1 + (len1 : Int) % 3) = kind at *
  clear hH m0 m1
  obtain ⟨F, hL_F⟩ : ∃ zz, fsumL a kind = zz := ⟨_, rfl⟩
  have HF : Hid (fsumL a kind = F) := hL_F
  clear hL_F
  obtain ⟨J, hL_J⟩ : ∃ zz, fjoinL a L = zz := ⟨_, rfl⟩
  have HJ : Hid (fjoinL a L = J) := hL_J
  clear hL_J
  obtain ⟨B, hL_B⟩ : ∃ zz, bothB a L = zz := ⟨_, rfl⟩
  have HB : Hid (bothB a L = B) := hL_B
  clear hL_B
  have H1 : Hid (bokB L = true) := by have e1 := HL.out; subst e1; exact feach_bok a how
  have H2 : Hid (bokB F = true) := by have e1 := HF.out; subst e1; exact fsum_bok a kind
  have H3 : Hid (bokB J = true) := by have e1 := HJ.out; subst e1; exact fjoin_bok a L
  have H4 : Hid (bokB B = true) := by have e1 := HB.out; subst e1; exact bothB_bok a L
  refine (specFlowEach_k HL.out R_2).mono ?_
  rintro e w3 ⟨os, rfl, S_3, hb3⟩
  have R_3 := R_2.keep hb3
  have X_3 := X_2.keep hb3
  have hbw3 := bStep hbw2 hb3
  clear R_2 X_2 hbw2 hb3
  go_wp2_with fail
  refine (lwRows_eq (selfR _) X_3 S_3).mono ?_
  rintro e w4 ⟨rfl, hb4⟩
  have R_4 := R_3.keep hb4
  have X_4 := X_3.keep hb4
  have hbw4 := bStep hbw3 hb4
  clear R_3 X_3 S_3 hbw3 hb4
  go_wp2_with fail
  refine (implBatchOk_eq H1.out X_4).mono ?_
  rintro e w5 ⟨rfl, hb5⟩
  have R_5 := R_4.keep hb5
  have X_5 := X_4.keep hb5
  have hbw5 := bStep hbw4 hb5
  clear R_4 X_4 hbw4 hb5
  go_wp2_with fail
  refine (implFlowSum_k HF.out R_5).mono ?_
  rintro e w6 ⟨of, rfl, F_6, hb6⟩
  have R_6 := R_5.keep hb6
  have X_6 := X_5.keep hb6
  have hbw6 := bStep hbw5 hb6
  clear R_5 X_5 hbw5 hb6
  go_wp2_with fail
  refine (implBatchOk_eq H2.out F_6).mono ?_
  rintro e w7 ⟨rfl, hb7⟩
  have R_7 := R_6.keep hb7
  have X_7 := X_6.keep hb7
  have hbw7 := bStep hbw6 hb7
  clear R_6 X_6 F_6 hbw6 hb7
  go_wp2_with fail
  refine (implFlowJoin_k HJ.out R_7 X_7).mono ?_
  rintro e w8 ⟨oj, rfl, J_8, hb8⟩
  have R_8 := R_7.keep hb8
  have X_8 := X_7.keep hb8
  have hbw8 := bStep hbw7 hb8
  clear R_7 X_7 hbw7 hb8
  go_wp2_with fail
  refine (implBatchOk_eq H3.out J_8).mono ?_
  rintro e w9 ⟨rfl, hb9⟩
  have R_9 := R_8.keep hb9
  have X_9 := X_8.keep hb9
  have hbw9 := bStep hbw8 hb9
  clear R_8 X_8 J_8 hbw8 hb9
  go_wp2_with fail
  refine (implBothB_k HB.out R_9 X_9).mono ?_
  rintro e w10 ⟨ob, rfl, B_10, hb10⟩
  have R_10 := R_9.keep hb10
  have X_10 := X_9.keep hb10
  have hbw10 := bStep hbw9 hb10
  clear R_9 X_9 hbw9 hb10
  go_wp2_with fail
  refine (implBatchOk_eq H4.out B_10).mono ?_
  rintro e w11 ⟨rfl, hb11⟩
  have R_11 := R_10.keep hb11
  have X_11 := X_10.keep hb11
  have B_11 := B_10.keep hb11
  have hbw11 := bStep hbw10 hb11
  clear R_10 X_10 B_10 hbw10 hb11
  go_wp2_with fail
  go_ret
  exact ⟨rfl, hbw11⟩
end FnFlowBatch
namespace RowFnFlowBatch
theorem own : ownKnob Tryz.prog.godebug = none := by kernel_rfl
set_option maxRecDepth 100000 in
theorem lifted (os : Os) (started : os.Started) (H : Type) (enc : TypeId × Value → H) :
    ReturnsInHanded {} Tryz.checked os 9 .any (Rows.fnFlowBatchSpec.pre6 enc Tryz.prog Tryz.f9 Rows.fnFlowBatchRow.domain false) (Rows.fnFlowBatchSpec.post enc Tryz.prog Tryz.f9 false true false false) := by
  refine returnsInHanded_of_change (C := Tryz.checked) own started (by kernel_rfl) Tryz.func9
    (ChangeSpec.witness6 (enc := enc) (C := Tryz.checked) false ⟨#[], #[.slice none 0 0, .slice none 0 0], []⟩ 8 (by kernel_rfl) (by kernel_rfl) (by kernel_rfl) (by kernel_rfl)) ?_
  intro W base args ds gs before hval0 hW hcnd _
  have hval : ∀ (j : Nat) t v, Tryz.f9.params[j]? = some t → args[j]? = some v → Value.okWide Tryz.prog W .any base t v := hval0
  have hW' := hW
  obtain ⟨p, q, hA0, hV, rfl, hfz, hnd⟩ := hW
  have hA : DataW.TrodAll enc Tryz.prog W 0 (fun _ => true) true Tryz.f9.params.toList args.toList ds p := hA0
  rw [Tryz.params9] at hA hval
  obtain ⟨v0, vs0, d0, ds0, p0, q0, hargs, rfl, rfl, h0, r0⟩ := trodAll_cons hA
  obtain ⟨v1, vs1, d1, ds1, p1, q1, rfl, rfl, rfl, h1, r1⟩ := trodAll_cons r0
  obtain ⟨rfl, rfl, rfl⟩ := trodAll_nil r1
  obtain rfl : args = #[v0, v1] := by cases args; simp_all
  obtain ⟨rfl, rfl⟩ := trodVars_none hV
  obtain ⟨a0, len0, cap0, rfl⟩ := okWide_slice Tryz.underlying22 (hval 0 22 v0 rfl rfl)
  have k0 := h0
  have lt0 : ∀ x ∈ p0, x.block < W.heap.size := by obtain ⟨m, hm⟩ := k0; exact DataW.trod_lt m _ _ _ hm
  have w0 : Src W (.slice a0 len0 cap0) len0 := by
    obtain ⟨fuel, hf⟩ := h0
    rcases open_ints Tryz.underlying22 Tryz.underlying5 (by kernel_rfl) hf with ⟨hcs, _⟩ | ⟨x, l, c, zs, hcs, _, hl, hm, hz, _, hcell, hwz⟩
    · simp [Value.cells] at hcs
      obtain ⟨rfl, rfl, rfl⟩ := hcs
      exact Src.nil _
    · simp [Value.cells] at hcs
      obtain ⟨rfl, rfl, rfl⟩ := hcs
      exact Src.of_row hl hm (by simpa using hz) hcell hwz
  obtain ⟨a1, len1, cap1, rfl⟩ := okWide_slice Tryz.underlying22 (hval 1 22 v1 rfl rfl)
  have k1 := h1
  have lt1 : ∀ x ∈ p1, x.block < W.heap.size := by obtain ⟨m, hm⟩ := k1; exact DataW.trod_lt m _ _ _ hm
  have w1 : Src W (.slice a1 len1 cap1) len1 := by
    obtain ⟨fuel, hf⟩ := h1
    rcases open_ints Tryz.underlying22 Tryz.underlying5 (by kernel_rfl) hf with ⟨hcs, _⟩ | ⟨x, l, c, zs, hcs, _, hl, hm, hz, _, hcell, hwz⟩
    · simp [Value.cells] at hcs
      obtain ⟨rfl, rfl, rfl⟩ := hcs
      exact Src.nil _
    · simp [Value.cells] at hcs
      obtain ⟨rfl, rfl, rfl⟩ := hcs
      exact Src.of_row hl hm (by simpa using hz) hcell hwz
  clear hA0 hval0
  refine (FnFlowBatch.walk a0 len0 cap0 a1 len1 cap1 W w0 w1).mono fun e W' ⟨he, bel⟩ => ?_
  subst he
  exact ⟨_, rfl, _, _, _, [], _, [], hW', trodAll_mk1 (shut_bool Tryz.underlying4 _), (trodAll_cons_mk (Below.trod pfLaid (by kernel_rfl) (of_decide_eq_true (by kernel_rfl)) k0 bel lt0) (trodAll_cons_mk (Below.trod pfLaid (by kernel_rfl) (of_decide_eq_true (by kernel_rfl)) k1 bel lt1) trodAll_mk0)), rfl, bel.frame _, fun h => by cases h⟩
set_option maxHeartbeats 4000000 in
theorem closed : joinedFacts Tryz.prog 9 Tryz.f9 Rows.fnFlowBatchSpec Rows.fnFlowBatchRow = true := by
  unfold joinedFacts
  exact (andB (andB (andB (andB (andB (andB (andB (andB (andB (andB (andB (andB (andB (andB (andB (andB (andB (andB (andB (andB (andB (andB (andB (andB (andB (andB (andB (andB (andB (andB (andB (by as_aux_lemma => kernel_rfl) pfLaid) pfRowed) (by as_aux_lemma => kernel_rfl)) (by as_aux_lemma => kernel_rfl)) (by as_aux_lemma => kernel_rfl)) (by as_aux_lemma => kernel_rfl)) (by as_aux_lemma => kernel_rfl)) (by as_aux_lemma => kernel_rfl)) (by as_aux_lemma => kernel_rfl)) (by as_aux_lemma => kernel_rfl)) (by as_aux_lemma => kernel_rfl)) (by as_aux_lemma => kernel_rfl)) (by as_aux_lemma => kernel_rfl)) (by as_aux_lemma => kernel_rfl)) (by as_aux_lemma => kernel_rfl)) (by as_aux_lemma => kernel_rfl)) (by as_aux_lemma => kernel_rfl)) (by as_aux_lemma => kernel_rfl)) (by as_aux_lemma => kernel_rfl)) (by as_aux_lemma => kernel_rfl)) (by as_aux_lemma => kernel_rfl)) (by as_aux_lemma => kernel_rfl)) (by as_aux_lemma => kernel_rfl)) pfHeard) pfEnter) (pfLiftB rfl)) (pfMakeB rfl)) (by as_aux_lemma => kernel_rfl)) (by as_aux_lemma => kernel_rfl)) (by as_aux_lemma => kernel_rfl)) (by as_aux_lemma => kernel_rfl))
theorem over : Rows.fnFlowBatchRow.holds Tryz.pinned (OpenSpec.ofChange Rows.fnFlowBatchSpec) :=
  OpenClaim.holds_of_wide 9 Tryz.f9 rfl rfl rfl rfl rfl rfl rfl ⟨rfl, rfl, rfl, rfl, rfl⟩ rfl rfl rfl rfl rfl (by kernel_rfl) Tryz.func9 closed
    (of_decide_eq_true (by kernel_rfl)) (by unfold Func.isWrapper; first | (rw [if_pos (by decide +kernel)]; kernel_rfl) | (rw [if_neg (by decide +kernel)]; exact ⟨rfl, rfl⟩))
    (fun os started H enc _ => lifted os started H enc)
end RowFnFlowBatch
theorem fnFlowBatch_holds : Rows.FnFlowBatchSaid := RowFnFlowBatch.over
end Go.Proofs.YtpjmkejojenflaaGreat
