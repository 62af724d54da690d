/- For all bytes: BatchTimes of the program answers of the rows that they draw as the model's, ahead of all these times there is nothing, and they are no more than the rows; the argument reads afterwards as before. No condition. -/
import Derived.Test.YtbmdfmboabfceaaPf
import Derived.Test.YtbmdfmboabfceaaGk1
namespace Go.Proofs.Ytbmdfmboabfceaa
open Go.ChangeShapes Go.WideShapes Go.ChangeAt Go.RowKit Go.Joins

namespace FnBatchTimes
set_option maxRecDepth 100000 in
set_option maxHeartbeats 8000000 in
theorem walk (x0 : Option Addr) (len0 cap0 : Nat) (w : World) (h0 : Src w (.slice x0 len0 cap0) len0) :
    Calls Try.prog 12 #[.slice x0 len0 cap0] w fun e w' => e = .returned (.bool true) ∧ Below w.heap.size w w' := by
  by_cases g0 : (1048576 : Int) < (len0 : Int)
  · go_enter Try.func12, Try.ntmps12
    go_wp2_with fail
    go_ret
    exact ⟨rfl, Below.refl _ _⟩
  go_enter Try.func12, Try.ntmps12
  go_wp2_with fail
  refine (drawBatchTimes_any _ _ _ _ h0).mono ?_
  rintro e w1 ⟨oa, a, rfl, hd, R_1, hb1⟩
  have hbw1 := hb1
  clear h0 hb1
  obtain ⟨M, hL_M⟩ : ∃ zz, timesL a = zz := ⟨_, rfl⟩
  have HM : Hid (timesL a = M) := hL_M
  clear hL_M
  go_wp2_with fail
  refine (implTimesB_k HM.out R_1).mono ?_
  rintro e w2 ⟨ot, rfl, T_2, hb2⟩
  have R_2 := R_1.keep hb2
  have hbw2 := bStep hbw1 hb2
  clear R_1 hbw1 hb2
  go_wp2_with fail
  refine (specTimesB_k HM.out R_2).mono ?_
  rintro e w3 ⟨os, rfl, S_3, hb3⟩
  have R_3 := R_2.keep hb3
  have T_3 := T_2.keep hb3
  have hbw3 := bStep hbw2 hb3
  clear R_2 T_2 hbw2 hb3
  go_wp2_with fail
  refine (lwTimes_eq (self_true _) T_3 S_3).mono ?_
  rintro e w4 ⟨rfl, hb4⟩
  have R_4 := R_3.keep hb4
  have T_4 := T_3.keep hb4
  have hbw4 := bStep hbw3 hb4
  clear R_3 T_3 S_3 hbw3 hb4
  cases hk : rokB a
  · go_wp2_with fail
    refine (specRowsOk_eq hk R_4).mono ?_
    rintro e w5 ⟨rfl, hb5⟩
    have R_5 := R_4.keep hb5
    have T_5 := T_4.keep hb5
    have hbw5 := bStep hbw4 hb5
    clear R_4 T_4 hbw4 hb5
    go_wp2_with fail
    refine (specTimesB_k HM.out R_5).mono ?_
    rintro e w6 ⟨os, rfl, S_6, hb6⟩
    have R_6 := R_5.keep hb6
    have T_6 := T_5.keep hb6
    have hbw6 := bStep hbw5 hb6
    clear R_5 T_5 hbw5 hb6
    go_wp2_with fail
    refine (lwTimes_eq (self_true _) T_6 S_6).mono ?_
    rintro e w7 ⟨rfl, hb7⟩
    have R_7 := R_6.keep hb7
    have T_7 := T_6.keep hb7
    have S_7 := S_6.keep hb7
    have hbw7 := bStep hbw6 hb7
    clear R_6 T_6 S_6 hbw6 hb7
    go_wp2_with fail
    go_ret
    exact ⟨rfl, hbw7⟩
  · obtain ⟨F, hL_F⟩ : ∃ zz, frontL M = zz := ⟨_, rfl⟩
    have HF : Hid (frontL M = F) := hL_F
    clear hL_F
    have hle : (M.length : Int) ≤ (a.length : Int) := by have := HM.out; subst this; have := times_few (l := a); omega
    have HN : Hid (∀ X Y : Int, okB X Y = true → (fokB F && anyB F X Y) = false → itemsL a X Y = []) := by
      have e1 := HM.out
      have e2 := HF.out
      subst e1 e2
      exact fun X Y hX hc => ahead_none hk hX hc
    go_wp2_with fail
    refine (specRowsOk_eq hk R_4).mono ?_
    rintro e w5 ⟨rfl, hb5⟩
    have R_5 := R_4.keep hb5
    have T_5 := T_4.keep hb5
    have hbw5 := bStep hbw4 hb5
    clear R_4 T_4 hbw4 hb5
    go_wp2_with fail
    refine (implFrontOf_k HF.out T_5).mono ?_
    rintro e w6 ⟨of, rfl, F_6, hb6⟩
    have R_6 := R_5.keep hb6
    have T_6 := T_5.keep hb6
    have hbw6 := bStep hbw5 hb6
    clear R_5 T_5 hbw5 hb6
    go_wp2_with fail
    refine (lwAll_any _).mono ?_
    rintro e w7 ⟨ga, capa, rfl, howna, hga, hb7⟩
    have HA := (show Hid _ from howna)
    clear howna
    have R_7 := R_6.keep hb7
    have T_7 := T_6.keep hb7
    have F_7 := F_6.keep hb7
    have hbw7 := bStep hbw6 hb7
    clear R_6 T_6 F_6 hbw6 hb7
    obtain ⟨am, capm, rfl, -, -, -, -⟩ := T_7
    have HFS : Hid (Ts w7 of F) := F_7
    have HRS0 : Hid (Rs w7 oa a) := R_7
    obtain ⟨aa, capa', rfl, -, -, -, -⟩ := R_7
    have HRS : Hid (Rs w7 (.slice aa a.length capa') a) := HRS0
    clear HRS0 F_7
    go_wp2_with fail
    go_loopw [7] (fun i wr => ∃ k : Nat, k ≤ 64 ∧ i = .int .i64 k ∧ Below w7.heap.size w7 wr) (fun i _ => 64 - (intOf i).toNat)
    case atStart => exact ⟨0, by omega, rfl, Below.refl _ _⟩
    obtain ⟨k, hk64, rfl, hb⟩ := hrel
    by_cases hlt : k < 64
    · obtain ⟨c0, c1⟩ := all_cells HA.out hlt
      have d0 := cell_below hb c0
      have d1 := cell_below hb c1
      have HOK : Hid (okB ((k / 8 : Nat) : Int) ((k % 8 : Nat) : Int) = true) := by show _ = _; simp [okB]; omega
      have HX : Hid (∀ W, Below w7.heap.size w7 W → W.cell? ⟨ga, k * 2, none⟩ = some (.int .i64 ((k / 8 : Nat) : Int)) ∧ W.cell? ⟨ga, k * 2 + 1, none⟩ = some (.int .i64 ((k % 8 : Nat) : Int))) :=
        fun W hW => ⟨cell_below hW c0, cell_below hW c1⟩
      have ik : (k : Int) < 64 := by omega
      clear c0 c1
      generalize hX : ((k / 8 : Nat) : Int) = X at *
      generalize hY : ((k % 8 : Nat) : Int) = Y at *
      clear hX hY
      cases hcv : (fokB F && anyB F X Y)
      · have HI : Hid (itemsL a X Y = []) := HN.out X Y HOK.out hcv
        go_wp2_with fail
        refine (implCovers_eq hcv (HFS.out.keep hb)).mono ?_
        rintro e wc ⟨rfl, hbc⟩
        have hbn := bStep hb hbc
        obtain ⟨e0, e1⟩ := HX.out _ hbn
        clear d0 d1 hb hbc
        go_wp2_with fail
        refine (implAt_k HI.out (HRS.out.keep hbn)).mono ?_
        rintro e wd ⟨od, rfl, isd, hbd⟩
        have hbm := bStep hbn hbd
        obtain ⟨ad, capd, rfl, -⟩ := isd
        simp only [List.length_nil] at *
        go_wp2_with fail
        go_roundw
        case rel => exact ⟨k + 1, by omega, by go_num, hbm⟩
        case measure => simp [intOf]; omega
      · go_wp2_with fail
        refine (implCovers_eq hcv (HFS.out.keep hb)).mono ?_
        rintro e wc ⟨rfl, hbc⟩
        have hbn := bStep hb hbc
        go_wp2_with fail
        go_roundw
        case rel => exact ⟨k + 1, by omega, by go_num, hbn⟩
        case measure => simp [intOf]; omega
    · obtain rfl : k = 64 := by omega
      go_wp2_with fail
      go_ret
      exact ⟨rfl, bStep hbw7 hb⟩
end FnBatchTimes
namespace RowFnBatchTimes
theorem own : ownKnob Try.prog.godebug = none := by kernel_rfl
set_option maxRecDepth 100000 in
theorem lifted (os : Os) (started : os.Started) (H : Type) (enc : TypeId × Value → H) :
    ReturnsInHanded {} Try.checked os 12 .any (Rows.fnBatchTimesSpec.pre6 enc Try.prog Try.f12 Rows.fnBatchTimesRow.domain false) (Rows.fnBatchTimesSpec.post enc Try.prog Try.f12 false true false false) := by
  refine returnsInHanded_of_change (C := Try.checked) own started (by kernel_rfl) Try.func12
    (ChangeSpec.witness6 (enc := enc) (C := Try.checked) false ⟨#[], #[.slice none 0 0], []⟩ 8 (by kernel_rfl) (by kernel_rfl) (by kernel_rfl) (by kernel_rfl)) ?_
  intro W base args ds gs before hval0 hW hcnd _
  have hval : ∀ (j : Nat) t v, Try.f12.params[j]? = some t → args[j]? = some v → Value.okWide Try.prog W .any base t v := hval0
  have hW' := hW
  obtain ⟨p, q, hA0, hV, rfl, hfz, hnd⟩ := hW
  have hA : DataW.TrodAll enc Try.prog W 0 (fun _ => true) true Try.f12.params.toList args.toList ds p := hA0
  rw [Try.params12] at hA hval
  obtain ⟨v0, vs0, d0, ds0, p0, q0, hargs, rfl, rfl, h0, r0⟩ := trodAll_cons hA
  obtain ⟨rfl, rfl, rfl⟩ := trodAll_nil r0
  obtain rfl : args = #[v0] := by cases args; simp_all
  obtain ⟨rfl, rfl⟩ := trodVars_none hV
  obtain ⟨a0, len0, cap0, rfl⟩ := okWide_slice Try.underlying22 (hval 0 22 v0 rfl rfl)
  have k0 := h0
  have lt0 : ∀ x ∈ p0, x.block < W.heap.size := by obtain ⟨m, hm⟩ := k0; exact DataW.trod_lt m _ _ _ hm
  have w0 : Src W (.slice a0 len0 cap0) len0 := by
    obtain ⟨fuel, hf⟩ := h0
    rcases open_ints Try.underlying22 Try.underlying5 (by kernel_rfl) hf with ⟨hcs, _⟩ | ⟨x, l, c, zs, hcs, _, hl, hm, hz, _, hcell, hwz⟩
    · simp [Value.cells] at hcs
      obtain ⟨rfl, rfl, rfl⟩ := hcs
      exact Src.nil _
    · simp [Value.cells] at hcs
      obtain ⟨rfl, rfl, rfl⟩ := hcs
      exact Src.of_row hl hm (by simpa using hz) hcell hwz
  clear hA0 hval0
  refine (FnBatchTimes.walk a0 len0 cap0 W w0).mono fun e W' ⟨he, bel⟩ => ?_
  subst he
  exact ⟨_, rfl, _, _, _, [], _, [], hW', trodAll_mk1 (shut_bool Try.underlying4 _), (trodAll_cons_mk (Below.trod pfLaid (by kernel_rfl) (of_decide_eq_true (by kernel_rfl)) k0 bel lt0) trodAll_mk0), rfl, bel.frame _, fun h => by cases h⟩
set_option maxHeartbeats 4000000 in
theorem closed : joinedFacts Try.prog 12 Try.f12 Rows.fnBatchTimesSpec Rows.fnBatchTimesRow = true := by
  unfold joinedFacts
  exact (andB (andB (andB (andB (andB (andB (andB (andB (andB (andB (andB (andB (andB (andB (andB (andB (andB (andB (andB (andB (andB (andB (andB (andB (andB (andB (andB (andB (andB (andB (andB (by as_aux_lemma => kernel_rfl) pfLaid) pfRowed) (by as_aux_lemma => kernel_rfl)) (by as_aux_lemma => kernel_rfl)) (by as_aux_lemma => kernel_rfl)) (by as_aux_lemma => kernel_rfl)) (by as_aux_lemma => kernel_rfl)) (by as_aux_lemma => kernel_rfl)) (by as_aux_lemma => kernel_rfl)) (by as_aux_lemma => kernel_rfl)) (by as_aux_lemma => kernel_rfl)) (by as_aux_lemma => kernel_rfl)) (by as_aux_lemma => kernel_rfl)) (by as_aux_lemma => kernel_rfl)) (by as_aux_lemma => kernel_rfl)) (by as_aux_lemma => kernel_rfl)) (by as_aux_lemma => kernel_rfl)) (by as_aux_lemma => kernel_rfl)) (by as_aux_lemma => kernel_rfl)) (by as_aux_lemma => kernel_rfl)) (by as_aux_lemma => kernel_rfl)) (by as_aux_lemma => kernel_rfl)) (by as_aux_lemma => kernel_rfl)) pfHeard) pfEnter) (pfLiftB rfl)) (pfMakeB rfl)) (by as_aux_lemma => kernel_rfl)) (by as_aux_lemma => kernel_rfl)) (by as_aux_lemma => kernel_rfl)) (by as_aux_lemma => kernel_rfl))
theorem over : Rows.fnBatchTimesRow.holds Try.pinned (OpenSpec.ofChange Rows.fnBatchTimesSpec) :=
  OpenClaim.holds_of_wide 12 Try.f12 rfl rfl rfl rfl rfl rfl rfl ⟨rfl, rfl, rfl, rfl, rfl⟩ rfl rfl rfl rfl rfl (by kernel_rfl) Try.func12 closed
    (of_decide_eq_true (by kernel_rfl)) (by unfold Func.isWrapper; first | (rw [if_pos (by decide +kernel)]; kernel_rfl) | (rw [if_neg (by decide +kernel)]; exact ⟨rfl, rfl⟩))
    (fun os started H enc _ => lifted os started H enc)
end RowFnBatchTimes
theorem fnBatchTimes_holds : Rows.FnBatchTimesSaid := RowFnBatchTimes.over
end Go.Proofs.Ytbmdfmboabfceaa
