/- For every list of rows, whatever the numbers, BatchOf of the program answers as BatchOf of the model (more than 1048576 of them are passed by, as the law says), the list is left as it was, the answer keeps nothing of them and owns its memory, behind another call too, and the arguments read afterwards as before. No condition. -/
import Derived.Test.YtebgjpghccnfcabPf
import Derived.Test.YtebgjpghccnfcabGb1
import Derived.Test.YtebgjpghccnfcabGs2
namespace Go.Proofs.Ytebgjpghccnfcab
open Go.ChangeShapes Go.WideShapes Go.ChangeAt Go.RowKit Go.Joins

namespace FnExactBatchOf
set_option maxHeartbeats 16000000 in
theorem walk (a0 : Option Addr) (len0 cap0 : Nat) (w : World) (h0 : RsArg w a0 len0 cap0) :
    Calls Try.prog 6 #[.slice a0 len0 cap0] w fun e w' => e = .returned (.bool true) ∧ Below w.heap.size w w' := by
  have hl0 := h0.1
  have hm0 := h0.2.1
  by_cases hbig0 : (1048576 : Int) < (len0 : Int)
  · go_enter Try.func6, Try.ntmps6
    go_wp2_with fail
    refine (szRowS_any _ _ _ _ _ hl0 hm0 (by omega) (by omega)).mono ?_
    rintro e wz0 ⟨rfl, rfl⟩
    rw [if_pos hbig0]
    go_wp2_with fail
    go_ret
    exact ⟨rfl, Below.refl _ _⟩
  obtain ⟨l0, rfl, ht0⟩ := h0.rs (by omega)
  have hlen0 : l0.length ≤ maxLen := by unfold maxLen at *; omega
  have hn0 : l0.length ≤ 2097152 := by omega
  have hR := batch_len l0
  go_enter Try.func6, Try.ntmps6
  go_wp2_with fail
  refine (szRowS_any _ _ _ _ _ hl0 hm0 (by omega) (by omega)).mono ?_
  rintro e wz0 ⟨rfl, hwz0⟩
  subst hwz0
  rw [if_neg (by omega)]
  have hp0 : ¬ ((1048576 : Int) - (l0.length : Int) < 0) := by omega
  go_wp2_with fail
  refine (toRowS_any _ l0 _ ht0).mono ?_
  rintro e w1 ⟨g1, c1, rfl, hg1, hbk1, hcs1, hfill1, hb1⟩
  have hbw1 := hb1
  have hsz1 := hb1.size
  have s0 := SlK.of_blk hbk1 hfill1 rowC_len (Nat.le_refl _) hlen0 hn0
  clear hcs1 hfill1 hbk1
  go_wp2_with fail
  refine (specBatchOf_any _ l0 _ s0).mono ?_
  rintro e w2 ⟨o2, rfl, own2, hb2⟩
  have hbw2 := bStep hbw1 hb2
  have s0_2 := s0.keep hb2
  have hsz2 := hb2.size
  have OS : Hid (OwnR w2 w1.heap.size o2 (batchL l0)) := own2
  have SL := (show Hid _ from ownK_lt own2)
  have SB := (show Hid _ from ownK_base own2)
  clear own2
  go_wp2_with fail
  refine (toRowS_any _ l0 _ (ht0.keep hbw2)).mono ?_
  rintro e w3 ⟨g3, c3, rfl, hg3, hbk3, hcs3, hfill3, hb3⟩
  have hbw3 := bStep hbw2 hb3
  have OS_3 : Hid (OwnR w3  w1.heap.size o2 (batchL l0)) := own_keep OS.out hb3
  have hsz3 := hb3.size
  have x0_ := SlK.of_blk hbk3 hfill3 rowC_len (Nat.le_refl _) hlen0 hn0
  have hlt3 := hbk3.lt
  clear hfill3
  go_wp2_with fail
  refine (implBatchOf_any _ l0 _ x0_).mono ?_
  rintro e w4 ⟨o4, rfl, own4, hb4⟩
  have hbw4 := bStep hbw3 hb4
  have x0__4 := x0_.keep hb4
  have x0_b_4 := hbk3.keep hb4
  have OS_4 : Hid (OwnR w4  w1.heap.size o2 (batchL l0)) := own_keep OS_3.out hb4
  have hsz4 := hb4.size
  have OG : Hid (OwnR w4 w3.heap.size o4 (batchL l0)) := own4
  have GB := (show Hid _ from ownK_base own4)
  clear own4
  go_wp2_with fail
  refine (eqRowS_same _ _ _ _ (OwnR.rs OG.out (by omega)) (OwnR.rs OS_4.out (by omega))).mono ?_
  rintro e w5 ⟨rfl, hb5⟩
  have hbw5 := bStep hbw4 hb5
  have x0__5 := x0__4.keep hb5
  have x0_b_5 := x0_b_4.keep hb5
  have OS_5 : Hid (OwnR w5  w1.heap.size o2 (batchL l0)) := own_keep OS_4.out hb5
  have OG_5 : Hid (OwnR w5  w3.heap.size o4 (batchL l0)) := own_keep OG.out hb5
  have hsz5 := hb5.size
  go_wp2_with fail
  refine (toRowS_any _ l0 _ (ht0.keep hbw5)).mono ?_
  rintro e w6 ⟨g6, c6, rfl, hg6, hbk6, hcs6, hfill6, hb6⟩
  have hbw6 := bStep hbw5 hb6
  have x0__6 := x0__5.keep hb6
  have x0_b_6 := x0_b_5.keep hb6
  have OS_6 : Hid (OwnR w6  w1.heap.size o2 (batchL l0)) := own_keep OS_5.out hb6
  have OG_6 : Hid (OwnR w6  w3.heap.size o4 (batchL l0)) := own_keep OG_5.out hb6
  have hsz6 := hb6.size
  have q0 := SlK.of_blk hbk6 hfill6 rowC_len (Nat.le_refl _) hlen0 hn0
  clear hcs6 hfill6 hbk6
  go_wp2_with fail
  refine (eqRowS_same _ _ l0 _ x0__6 q0).mono ?_
  rintro e w7 ⟨rfl, hb7⟩
  have hbw7 := bStep hbw6 hb7
  have x0__7 := x0__6.keep hb7
  have q0_7 := q0.keep hb7
  have x0_b_7 := x0_b_6.keep hb7
  have OS_7 : Hid (OwnR w7  w1.heap.size o2 (batchL l0)) := own_keep OS_6.out hb7
  have OG_7 : Hid (OwnR w7  w3.heap.size o4 (batchL l0)) := own_keep OG_6.out hb7
  have hsz7 := hb7.size
  go_wp2_with fail
  refine (markRB_any g3 l0.length l0.length c3 1 _ x0_b_7 hcs3 (Nat.le_refl _) hn0 (by omega) (by omega)).mono ?_
  rintro e w8 ⟨c8, rfl, bm8, hcm8, hfm8, hx8⟩
  have hbw8 := hx8.below hbw7 (by omega) (by omega)
  have OS_8 : Hid (OwnR w8 w1.heap.size o2 (batchL l0)) := ownK_beside OS_7.out hx8 (fun q e => by have := SL.out q e; omega)
  have OG_8 : Hid (OwnR w8 w3.heap.size o4 (batchL l0)) := ownK_beside OG_7.out hx8 (fun q e => by have := GB.out q e; omega)
  have hsz8 := hx8.size
  clear bm8 hcm8 hfm8 hx8
  have hkn : decide ((1 : Int) + 5 * (l0.length : Int) < 0) = false := by simp; omega
  go_wp2_with fail
  refine (eqRowS_same _ _ _ _ (OwnR.rs OG_8.out (by omega)) (OwnR.rs OS_8.out (by omega))).mono ?_
  rintro e w9 ⟨rfl, hb9⟩
  have hbw9 := bStep hbw8 hb9
  have OS_9 : Hid (OwnR w9  w1.heap.size o2 (batchL l0)) := own_keep OS_8.out hb9
  have OG_9 : Hid (OwnR w9  w3.heap.size o4 (batchL l0)) := own_keep OG_8.out hb9
  have hsz9 := hb9.size
  go_wp2_with fail
  refine (markRO_any OG_9.out (by omega) (by omega) 1 (by omega) (by omega)).mono ?_
  rintro e w10 ⟨rfl, om10, hb10⟩
  have hbw10 := hbw9.trans (hb10.mono (by omega))
  have OS_10 : Hid (OwnR w10 w1.heap.size o2 (batchL l0)) := ownK_under OS_9.out hb10 (fun q e => by have := SL.out q e; omega)
  have OM_10 : Hid (OwnR w10 w3.heap.size o4 (marksR 1 (batchL l0).length)) := om10
  have hsz10 := hb10.size
  clear om10 hb10
  have hqn : decide ((1 : Int) + 5 * ((batchL l0).length : Int) < 0) = false := by simp; omega
  go_wp2_with fail
  refine (heldR_any _ (batchL l0).length 1 _ (OwnR.rs OM_10.out (by rw [marksR_len]; omega)) (by omega) (by omega)).mono ?_
  rintro e w11 ⟨rfl, hb11⟩
  have hbw11 := bStep hbw10 hb11
  have OS_11 : Hid (OwnR w11  w1.heap.size o2 (batchL l0)) := own_keep OS_10.out hb11
  have OM_11 : Hid (OwnR w11  w3.heap.size o4 (marksR 1 (batchL l0).length)) := own_keep OM_10.out hb11
  have hsz11 := hb11.size
  go_wp2_with fail
  refine (toRowS_any _ l0 _ (ht0.keep hbw11)).mono ?_
  rintro e w12 ⟨g12, c12, rfl, hg12, hbk12, hcs12, hfill12, hb12⟩
  have hbw12 := bStep hbw11 hb12
  have OS_12 : Hid (OwnR w12  w1.heap.size o2 (batchL l0)) := own_keep OS_11.out hb12
  have OM_12 : Hid (OwnR w12  w3.heap.size o4 (marksR 1 (batchL l0).length)) := own_keep OM_11.out hb12
  have hsz12 := hb12.size
  have z0 := SlK.of_blk hbk12 hfill12 rowC_len (Nat.le_refl _) hlen0 hn0
  clear hcs12 hfill12 hbk12
  go_wp2_with fail
  refine (implBatchOf_any _ l0 _ z0).mono ?_
  rintro e w13 ⟨o13, rfl, own13, hb13⟩
  have hbw13 := bStep hbw12 hb13
  have z0_13 := z0.keep hb13
  have OS_13 : Hid (OwnR w13  w1.heap.size o2 (batchL l0)) := own_keep OS_12.out hb13
  have OM_13 : Hid (OwnR w13  w3.heap.size o4 (marksR 1 (batchL l0).length)) := own_keep OM_12.out hb13
  have hsz13 := hb13.size
  have th := OwnR.rs own13 (by omega)
  clear own13
  go_wp2_with fail
  refine (eqRowS_same _ _ _ _ th (OwnR.rs OS_13.out (by omega))).mono ?_
  rintro e w14 ⟨rfl, hb14⟩
  have hbw14 := bStep hbw13 hb14
  have th_14 := th.keep hb14
  have OS_14 : Hid (OwnR w14  w1.heap.size o2 (batchL l0)) := own_keep OS_13.out hb14
  have OM_14 : Hid (OwnR w14  w3.heap.size o4 (marksR 1 (batchL l0).length)) := own_keep OM_13.out hb14
  have hsz14 := hb14.size
  go_wp2_with fail
  refine (heldR_any _ (batchL l0).length 1 _ (OwnR.rs OM_14.out (by rw [marksR_len]; omega)) (by omega) (by omega)).mono ?_
  rintro e w15 ⟨rfl, hb15⟩
  have hbw15 := bStep hbw14 hb15
  go_wp2_with fail
  go_ret
  exact ⟨rfl, hbw15⟩
end FnExactBatchOf
namespace RowFnExactBatchOf
theorem own : ownKnob Try.prog.godebug = none := by kernel_rfl
set_option maxRecDepth 100000 in
theorem lifted (os : Os) (started : os.Started) (H : Type) (enc : TypeId × Value → H) :
    ReturnsInHanded {} Try.checked os 6 .any (Rows.fnExactBatchOfSpec.pre6 enc Try.prog Try.f6 Rows.fnExactBatchOfRow.domain false) (Rows.fnExactBatchOfSpec.post enc Try.prog Try.f6 false true false false) := by
  refine returnsInHanded_of_change (C := Try.checked) own started (by kernel_rfl) Try.func6
    (ChangeSpec.witness6 (enc := enc) (C := Try.checked) false ⟨#[], #[.slice none 0 0], []⟩ 8 (by kernel_rfl) (by kernel_rfl) (by kernel_rfl) (by kernel_rfl)) ?_
  intro W base args ds gs before hval0 hW hcnd _
  have hval : ∀ (j : Nat) t v, Try.f6.params[j]? = some t → args[j]? = some v → Value.okWide Try.prog W .any base t v := hval0
  have hW' := hW
  obtain ⟨p, q, hA0, hV, rfl, hfz, hnd⟩ := hW
  have hA : DataW.TrodAll enc Try.prog W 0 (fun _ => true) true Try.f6.params.toList args.toList ds p := hA0
  rw [Try.params6] at hA hval
  obtain ⟨v0, vs0, d0, ds0, p0, q0, hargs, rfl, rfl, h0, r0⟩ := trodAll_cons hA
  obtain ⟨rfl, rfl, rfl⟩ := trodAll_nil r0
  obtain rfl : args = #[v0] := by cases args; simp_all
  obtain ⟨rfl, rfl⟩ := trodVars_none hV
  obtain ⟨a0, len0, cap0, rfl⟩ := okWide_slice Try.underlying46 (hval 0 46 v0 rfl rfl)
  have k0 := h0
  have lt0 : ∀ x ∈ p0, x.block < W.heap.size := by obtain ⟨m, hm⟩ := k0; exact DataW.trod_lt m _ _ _ hm
  have w0 : RsArg W a0 len0 cap0 := RsArg.of_trod h0
  clear hA0 hval0
  refine (FnExactBatchOf.walk a0 len0 cap0 W w0).mono fun e W' ⟨he, bel⟩ => ?_
  subst he
  exact ⟨_, rfl, _, _, _, [], _, [], hW', trodAll_mk1 (shut_bool Try.underlying4 _), (trodAll_cons_mk (Below.trod pfLaid (by kernel_rfl) (of_decide_eq_true (by kernel_rfl)) k0 bel lt0) trodAll_mk0), rfl, bel.frame _, fun h => by cases h⟩
set_option maxHeartbeats 4000000 in
theorem closed : joinedFacts Try.prog 6 Try.f6 Rows.fnExactBatchOfSpec Rows.fnExactBatchOfRow = true := by
  unfold joinedFacts
  exact (andB (andB (andB (andB (andB (andB (andB (andB (andB (andB (andB (andB (andB (andB (andB (andB (andB (andB (andB (andB (andB (andB (andB (andB (andB (andB (andB (andB (andB (andB (andB (by as_aux_lemma => kernel_rfl) pfLaid) pfRowed) (by as_aux_lemma => kernel_rfl)) (by as_aux_lemma => kernel_rfl)) (by as_aux_lemma => kernel_rfl)) (by as_aux_lemma => kernel_rfl)) (by as_aux_lemma => kernel_rfl)) (by as_aux_lemma => kernel_rfl)) (by as_aux_lemma => kernel_rfl)) (by as_aux_lemma => kernel_rfl)) (by as_aux_lemma => kernel_rfl)) (by as_aux_lemma => kernel_rfl)) (by as_aux_lemma => kernel_rfl)) (by as_aux_lemma => kernel_rfl)) (by as_aux_lemma => kernel_rfl)) (by as_aux_lemma => kernel_rfl)) (by as_aux_lemma => kernel_rfl)) (by as_aux_lemma => kernel_rfl)) (by as_aux_lemma => kernel_rfl)) (by as_aux_lemma => kernel_rfl)) (by as_aux_lemma => kernel_rfl)) (by as_aux_lemma => kernel_rfl)) (by as_aux_lemma => kernel_rfl)) pfHeard) pfEnter) (pfLiftB rfl)) (pfMakeB rfl)) (by as_aux_lemma => kernel_rfl)) (by as_aux_lemma => kernel_rfl)) (by as_aux_lemma => kernel_rfl)) (by as_aux_lemma => kernel_rfl))
theorem over : Rows.fnExactBatchOfRow.holds Try.pinned (OpenSpec.ofChange Rows.fnExactBatchOfSpec) :=
  OpenClaim.holds_of_wide 6 Try.f6 rfl rfl rfl rfl rfl rfl rfl ⟨rfl, rfl, rfl, rfl, rfl⟩ rfl rfl rfl rfl rfl (by kernel_rfl) Try.func6 closed
    (of_decide_eq_true (by kernel_rfl)) (by unfold Func.isWrapper; first | (rw [if_pos (by decide +kernel)]; kernel_rfl) | (rw [if_neg (by decide +kernel)]; exact ⟨rfl, rfl⟩))
    (fun os started H enc _ => lifted os started H enc)
end RowFnExactBatchOf
theorem fnExactBatchOf_holds : Rows.FnExactBatchOfSaid := RowFnExactBatchOf.over
end Go.Proofs.Ytebgjpghccnfcab
