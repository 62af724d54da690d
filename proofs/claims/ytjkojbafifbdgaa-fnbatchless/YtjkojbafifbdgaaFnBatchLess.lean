/- For all bytes: BatchLess of the program makes of the rows that they draw what the model makes of them, which takes away at all times what the rows say, together nothing is left, and taken away twice it is their batch; the argument reads afterwards as before. No condition. -/
import Derived.Test.YtjkojbafifbdgaaPf
import Derived.Test.YtjkojbafifbdgaaGk2
namespace Go.Proofs.Ytjkojbafifbdgaa
open Go.ChangeShapes Go.WideShapes Go.ChangeAt Go.RowKit Go.Joins

namespace FnBatchLess
set_option maxRecDepth 100000 in
set_option maxHeartbeats 8000000 in
theorem walk (x0 : Option Addr) (len0 cap0 : Nat) (w : World) (h0 : Src w (.slice x0 len0 cap0) len0) :
    Calls Try.prog 4 #[.slice x0 len0 cap0] w fun e w' => e = .returned (.bool true) ∧ Below w.heap.size w w' := by
  by_cases g0 : (1048576 : Int) < (len0 : Int)
  · go_enter Try.func4, Try.ntmps4
    go_wp2_with fail
    go_ret
    exact ⟨rfl, Below.refl _ _⟩
  go_enter Try.func4, Try.ntmps4
  go_wp2_with fail
  refine (drawBatchLess_any _ _ _ _ h0).mono ?_
  rintro e w1 ⟨oa, a, rfl, hd, R_1, hb1⟩
  have hbw1 := hb1
  clear h0 hb1
  obtain ⟨L, hL_L⟩ : ∃ zz, lessL a = zz := ⟨_, rfl⟩
  have HL : Hid (lessL a = L) := hL_L
  clear hL_L
  go_wp2_with fail
  refine (implLessB_k HL.out R_1).mono ?_
  rintro e w2 ⟨ox, rfl, X_2, hb2⟩
  have R_2 := R_1.keep hb2
  have hbw2 := bStep hbw1 hb2
  clear R_1 hbw1 hb2
  go_wp2_with fail
  refine (specLessB_k HL.out R_2).mono ?_
  rintro e w3 ⟨os, rfl, S_3, hb3⟩
  have R_3 := R_2.keep hb3
  have X_3 := X_2.keep hb3
  have hbw3 := bStep hbw2 hb3
  clear R_2 X_2 hbw2 hb3
  go_wp2_with fail
  refine (lwRows_eq (selfR _) X_3 S_3).mono ?_
  rintro e w4 ⟨rfl, hb4⟩
  have R_4 := R_3.keep hb4
  have X_4 := X_3.keep hb4
  have hbw4 := bStep hbw3 hb4
  clear R_3 X_3 S_3 hbw3 hb4
  cases hk : rokB a
  · go_wp2_with fail
    refine (specRowsOk_eq hk R_4).mono ?_
    rintro e w5 ⟨rfl, hb5⟩
    have R_5 := R_4.keep hb5
    have X_5 := X_4.keep hb5
    have hbw5 := bStep hbw4 hb5
    clear R_4 X_4 hbw4 hb5
    go_wp2_with fail
    refine (specLessB_k HL.out R_5).mono ?_
    rintro e w6 ⟨os, rfl, S_6, hb6⟩
    have R_6 := R_5.keep hb6
    have X_6 := X_5.keep hb6
    have hbw6 := bStep hbw5 hb6
    clear R_5 X_5 hbw5 hb6
    go_wp2_with fail
    refine (lwRows_eq (selfR _) X_6 S_6).mono ?_
    rintro e w7 ⟨rfl, hb7⟩
    have R_7 := R_6.keep hb7
    have X_7 := X_6.keep hb7
    have S_7 := S_6.keep hb7
    have hbw7 := bStep hbw6 hb7
    clear R_6 X_6 S_6 hbw6 hb7
    go_wp2_with fail
    go_ret
    exact ⟨rfl, hbw7⟩
  · obtain ⟨M, hL_M⟩ : ∃ zz, batchL a = zz := ⟨_, rfl⟩
    have HM : Hid (batchL a = M) := hL_M
    clear hL_M
    have ha := hd.abs hk
    have hl11 := hd.1
    have HI : Hid (∀ X Y : Int, okB X Y = true → itemsL L X Y = lessS (itemsL a X Y)) := by have := HL.out; subst this; exact fun X Y hX => less_items hk (by omega) hX
    have HB : Hid (bothB a L = []) := by have := HL.out; subst this; exact both_less hk hl11 ha
    have HLL : Hid (lessL L = M) := by have e1 := HL.out; have e2 := HM.out; subst e1 e2; exact less_less hk ha
    go_wp2_with fail
    refine (specRowsOk_eq hk R_4).mono ?_
    rintro e w5 ⟨rfl, hb5⟩
    have R_5 := R_4.keep hb5
    have X_5 := X_4.keep hb5
    have hbw5 := bStep hbw4 hb5
    clear R_4 X_4 hbw4 hb5
    go_wp2_with fail
    refine (lwAll_any _).mono ?_
    rintro e w6 ⟨ga, capa, rfl, howna, hga, hb6⟩
    have HA := (show Hid _ from howna)
    clear howna
    have R_6 := R_5.keep hb6
    have X_6 := X_5.keep hb6
    have hbw6 := bStep hbw5 hb6
    clear R_5 X_5 hbw5 hb6
    have HXS : Hid (Rs w6 ox L) := X_6
    have HRS : Hid (Rs w6 oa a) := R_6
    clear X_6 R_6
    go_wp2_with fail
    go_loopw [6] (fun i wr => ∃ k : Nat, k ≤ 64 ∧ i = .int .i64 k ∧ Below w6.heap.size w6 wr) (fun i _ => 64 - (intOf i).toNat)
    case atStart => exact ⟨0, by omega, rfl, Below.refl _ _⟩
    obtain ⟨k, hk64, rfl, hb⟩ := hrel
    by_cases hlt : k < 64
    · obtain ⟨c0, c1⟩ := all_cells HA.out hlt
      have d0 := cell_below hb c0
      have d1 := cell_below hb c1
      have HOK : Hid (okB ((k / 8 : Nat) : Int) ((k % 8 : Nat) : Int) = true) := by show _ = _; simp [okB]; omega
      have HX : Hid (∀ W, Below w6.heap.size w6 W → W.cell? ⟨ga, k * 2, none⟩ = some (.int .i64 ((k / 8 : Nat) : Int)) ∧ W.cell? ⟨ga, k * 2 + 1, none⟩ = some (.int .i64 ((k % 8 : Nat) : Int))) :=
        fun W hW => ⟨cell_below hW c0, cell_below hW c1⟩
      have ik : (k : Int) < 64 := by omega
      clear c0 c1
      generalize hX : ((k / 8 : Nat) : Int) = X at *
      generalize hY : ((k % 8 : Nat) : Int) = Y at *
      clear hX hY
      have HR1 : Hid (∀ W, Below w6.heap.size w6 W → Rs W ox L) := fun W hW => HXS.out.keep hW
      have HR2 : Hid (∀ W, Below w6.heap.size w6 W → Rs W oa a) := fun W hW => HRS.out.keep hW
      have HIE : Hid (lessS (itemsL a X Y) = itemsL L X Y) := (HI.out X Y HOK.out).symm
      have hbD := hb.drew
      go_wp2_with fail
      go_region_held3 (fun w' => w'.cell? ⟨ga, k * 2, none⟩ = some (.int .i64 X) ∧ w'.cell? ⟨ga, k * 2 + 1, none⟩ = some (.int .i64 Y))
        (first | exact HX.out _ hbD | exact HX.out _ hbna | exact HX.out _ hbnb | exact HX.out _ hbnc | exact HX.out _ hbnd)
        (first
          | (go_at_call 16; with_reducible refine (implAt_k rfl (HR1.out _ hbD)).mono ?_; rintro e wa ⟨oi, rfl, isa, hba⟩; have hbna : Below w6.heap.size w6 wa := bStep hbD hba)
          | (go_at_call 16; with_reducible refine (implAt_k rfl (HR2.out _ hbna)).mono ?_; rintro e wb ⟨oj, rfl, isb, hbb⟩; have hbnb : Below w6.heap.size w6 wb := bStep hbna hbb; have isa2 := SlK.keep isa hbb)
          | (go_at_call 22; with_reducible refine (implSetLess_k HIE.out isb).mono ?_; rintro e wc ⟨ok, rfl, isc, hbc⟩; have hbnc : Below w6.heap.size w6 wc := bStep hbnb hbc; have isa3 := SlK.keep isa2 hbc)
          | (go_at_call 15; with_reducible refine (lwItems_eq (selfI _) isa3 isc).mono ?_; rintro e wd ⟨rfl, hbd⟩; have hbnd : Below w6.heap.size w6 wd := bStep hbnc hbd))
      all_goals
        go_wp2_with fail
        go_roundw
        case rel => exact ⟨k + 1, by omega, by go_num, hbnd⟩
        case measure => simp [intOf]; omega
    obtain rfl : k = 64 := by omega
    have X_7 := HXS.out.keep hb
    have R_7 := HRS.out.keep hb
    have hbw7 := bStep hbw6 hb
    go_wp2_with fail
    refine (implBothB_k HB.out R_7 X_7).mono ?_
    rintro e w8 ⟨op, rfl, P_8, hb8⟩
    have R_8 := R_7.keep hb8
    have X_8 := X_7.keep hb8
    have hbw8 := bStep hbw7 hb8
    clear R_7 X_7 hbw7 hb8
    obtain ⟨ap, capp, hop, -⟩ := P_8
    have hop2 : op = .slice ap 0 capp := hop
    subst hop2
    clear hop
    go_wp2_with fail
    refine (implLessB_k HLL.out X_8).mono ?_
    rintro e w9 ⟨om, rfl, M_9, hb9⟩
    have R_9 := R_8.keep hb9
    have X_9 := X_8.keep hb9
    have hbw9 := bStep hbw8 hb9
    clear R_8 X_8 hbw8 hb9
    go_wp2_with fail
    refine (implBatchOf_k HM.out R_9).mono ?_
    rintro e w10 ⟨on, rfl, N_10, hb10⟩
    have R_10 := R_9.keep hb10
    have X_10 := X_9.keep hb10
    have M_10 := M_9.keep hb10
    have hbw10 := bStep hbw9 hb10
    clear R_9 X_9 M_9 hbw9 hb10
    go_wp2_with fail
    refine (lwRows_eq (selfR _) M_10 N_10).mono ?_
    rintro e w11 ⟨rfl, hb11⟩
    have R_11 := R_10.keep hb11
    have X_11 := X_10.keep hb11
    have M_11 := M_10.keep hb11
    have N_11 := N_10.keep hb11
    have hbw11 := bStep hbw10 hb11
    clear R_10 X_10 M_10 N_10 hbw10 hb11
    go_wp2_with fail
    go_ret
    exact ⟨rfl, hbw11⟩
end FnBatchLess
namespace RowFnBatchLess
theorem own : ownKnob Try.prog.godebug = none := by kernel_rfl
set_option maxRecDepth 100000 in
theorem lifted (os : Os) (started : os.Started) (H : Type) (enc : TypeId × Value → H) :
    ReturnsInHanded {} Try.checked os 4 .any (Rows.fnBatchLessSpec.pre6 enc Try.prog Try.f4 Rows.fnBatchLessRow.domain false) (Rows.fnBatchLessSpec.post enc Try.prog Try.f4 false true false false) := by
  refine returnsInHanded_of_change (C := Try.checked) own started (by kernel_rfl) Try.func4
    (ChangeSpec.witness6 (enc := enc) (C := Try.checked) false ⟨#[], #[.slice none 0 0], []⟩ 8 (by kernel_rfl) (by kernel_rfl) (by kernel_rfl) (by kernel_rfl)) ?_
  intro W base args ds gs before hval0 hW hcnd _
  have hval : ∀ (j : Nat) t v, Try.f4.params[j]? = some t → args[j]? = some v → Value.okWide Try.prog W .any base t v := hval0
  have hW' := hW
  obtain ⟨p, q, hA0, hV, rfl, hfz, hnd⟩ := hW
  have hA : DataW.TrodAll enc Try.prog W 0 (fun _ => true) true Try.f4.params.toList args.toList ds p := hA0
  rw [Try.params4] at hA hval
  obtain ⟨v0, vs0, d0, ds0, p0, q0, hargs, rfl, rfl, h0, r0⟩ := trodAll_cons hA
  obtain ⟨rfl, rfl, rfl⟩ := trodAll_nil r0
  obtain rfl : args = #[v0] := by cases args; simp_all
  obtain ⟨rfl, rfl⟩ := trodVars_none hV
  obtain ⟨a0, len0, cap0, rfl⟩ := okWide_slice Try.underlying22 (hval 0 22 v0 rfl rfl)
  have k0 := h0
  have lt0 : ∀ x ∈ p0, x.block < W.heap.size := by obtain ⟨m, hm⟩ := k0; exact DataW.trod_lt m _ _ _ hm
  have w0 : Src W (.slice a0 len0 cap0) len0 := by
    obtain ⟨fuel, hf⟩ := h0
    rcases open_ints Try.underlying22 Try.underlying5 (by kernel_rfl) hf with ⟨hcs, _⟩ | ⟨x, l, c, zs, hcs, _, hl, hm, hz, _, hcell, hwz⟩
    · simp [Value.cells] at hcs
      obtain ⟨rfl, rfl, rfl⟩ := hcs
      exact Src.nil _
    · simp [Value.cells] at hcs
      obtain ⟨rfl, rfl, rfl⟩ := hcs
      exact Src.of_row hl hm (by simpa using hz) hcell hwz
  clear hA0 hval0
  refine (FnBatchLess.walk a0 len0 cap0 W w0).mono fun e W' ⟨he, bel⟩ => ?_
  subst he
  exact ⟨_, rfl, _, _, _, [], _, [], hW', trodAll_mk1 (shut_bool Try.underlying4 _), (trodAll_cons_mk (Below.trod pfLaid (by kernel_rfl) (of_decide_eq_true (by kernel_rfl)) k0 bel lt0) trodAll_mk0), rfl, bel.frame _, fun h => by cases h⟩
set_option maxHeartbeats 4000000 in
theorem closed : joinedFacts Try.prog 4 Try.f4 Rows.fnBatchLessSpec Rows.fnBatchLessRow = true := by
  unfold joinedFacts
  exact (andB (andB (andB (andB (andB (andB (andB (andB (andB (andB (andB (andB (andB (andB (andB (andB (andB (andB (andB (andB (andB (andB (andB (andB (andB (andB (andB (andB (andB (andB (andB (by as_aux_lemma => kernel_rfl) pfLaid) pfRowed) (by as_aux_lemma => kernel_rfl)) (by as_aux_lemma => kernel_rfl)) (by as_aux_lemma => kernel_rfl)) (by as_aux_lemma => kernel_rfl)) (by as_aux_lemma => kernel_rfl)) (by as_aux_lemma => kernel_rfl)) (by as_aux_lemma => kernel_rfl)) (by as_aux_lemma => kernel_rfl)) (by as_aux_lemma => kernel_rfl)) (by as_aux_lemma => kernel_rfl)) (by as_aux_lemma => kernel_rfl)) (by as_aux_lemma => kernel_rfl)) (by as_aux_lemma => kernel_rfl)) (by as_aux_lemma => kernel_rfl)) (by as_aux_lemma => kernel_rfl)) (by as_aux_lemma => kernel_rfl)) (by as_aux_lemma => kernel_rfl)) (by as_aux_lemma => kernel_rfl)) (by as_aux_lemma => kernel_rfl)) (by as_aux_lemma => kernel_rfl)) (by as_aux_lemma => kernel_rfl)) pfHeard) pfEnter) (pfLiftB rfl)) (pfMakeB rfl)) (by as_aux_lemma => kernel_rfl)) (by as_aux_lemma => kernel_rfl)) (by as_aux_lemma => kernel_rfl)) (by as_aux_lemma => kernel_rfl))
theorem over : Rows.fnBatchLessRow.holds Try.pinned (OpenSpec.ofChange Rows.fnBatchLessSpec) :=
  OpenClaim.holds_of_wide 4 Try.f4 rfl rfl rfl rfl rfl rfl rfl ⟨rfl, rfl, rfl, rfl, rfl⟩ rfl rfl rfl rfl rfl (by kernel_rfl) Try.func4 closed
    (of_decide_eq_true (by kernel_rfl)) (by unfold Func.isWrapper; first | (rw [if_pos (by decide +kernel)]; kernel_rfl) | (rw [if_neg (by decide +kernel)]; exact ⟨rfl, rfl⟩))
    (fun os started H enc _ => lifted os started H enc)
end RowFnBatchLess
theorem fnBatchLess_holds : Rows.FnBatchLessSaid := RowFnBatchLess.over
end Go.Proofs.Ytjkojbafifbdgaa
