/- For all bytes: LoopFlow of the program answers of the batches and the rounds that they draw as the model's; with one round more the first ones are as they were; the argument reads afterwards as before. No condition. -/
import Derived.Test.YtjlaeeccnbdghaaGreatPf
import Derived.Test.YtjlaeeccnbdghaaGreatLg1
import Derived.Test.YtjlaeeccnbdghaaGreatLg2
import Derived.Test.YtjlaeeccnbdghaaGreatGd3
namespace Go.Proofs.YtjlaeeccnbdghaaGreat
open Go.ChangeShapes Go.WideShapes Go.ChangeAt Go.RowKit Go.Joins

namespace FnLoopMore
set_option maxRecDepth 100000 in
set_option maxHeartbeats 8000000 in
theorem walk (x0 : Option Addr) (len0 cap0 : Nat) (w : World) (h0 : Src w (.slice x0 len0 cap0) len0) :
    Calls Tryz.prog 4 #[.slice x0 len0 cap0] w fun e w' => e = .returned (.bool true) ∧ Below w.heap.size w w' := by
  by_cases g0 : (1048576 : Int) < (len0 : Int)
  · go_enter Tryz.func4, Tryz.ntmps4
    go_wp2_with fail
    go_ret
    exact ⟨rfl, Below.refl _ _⟩
  go_enter Tryz.func4, Tryz.ntmps4
  go_wp2_with fail
  refine (drawLoopFlow_any _ _ _ _ h0).mono ?_
  rintro e w1 ⟨o1, o2, l1, l2, n, rfl, hl1, hl2, hn0, hn7, A_1, B_1, hb1⟩
  have hbw1 := hb1
  clear h0 hb1
  obtain ⟨X, hL_X⟩ : ∃ zz, lflowL l1 l2 n = zz := ⟨_, rfl⟩
  have HX : Hid (lflowL l1 l2 n = X) := hL_X
  clear hL_X
  cases kb : lokB l1 l2 n
  · go_wp2_with fail
    refine (specLoopFlow_k HX.out kb A_1 B_1).mono ?_
    rintro e w2 ⟨os, rfl, S_2, hb2⟩
    have A_2 := A_1.keep hb2
    have B_2 := B_1.keep hb2
    have hbw2 := bStep hbw1 hb2
    clear A_1 B_1 hbw1 hb2
    go_wp2_with fail
    refine (implLoopFlow_k HX.out kb A_2 B_2).mono ?_
    rintro e w3 ⟨ox, rfl, X_3, hb3⟩
    have A_3 := A_2.keep hb3
    have B_3 := B_2.keep hb3
    have S_3 := S_2.keep hb3
    have hbw3 := bStep hbw2 hb3
    clear A_2 B_2 S_2 hbw2 hb3
    go_wp2_with fail
    refine (lwRows_eq (selfR _) X_3 S_3).mono ?_
    rintro e w4 ⟨rfl, hb4⟩
    have A_4 := A_3.keep hb4
    have B_4 := B_3.keep hb4
    have S_4 := S_3.keep hb4
    have X_4 := X_3.keep hb4
    have hbw4 := bStep hbw3 hb4
    clear A_3 B_3 S_3 X_3 hbw3 hb4
    go_wp2_with fail
    refine (lwRows_eq (selfR _) X_4 S_4).mono ?_
    rintro e w5 ⟨rfl, hb5⟩
    have A_5 := A_4.keep hb5
    have B_5 := B_4.keep hb5
    have S_5 := S_4.keep hb5
    have X_5 := X_4.keep hb5
    have hbw5 := bStep hbw4 hb5
    clear A_4 B_4 S_4 X_4 hbw4 hb5
    go_wp2_with fail
    go_ret
    exact ⟨rfl, hbw5⟩
  · obtain ⟨R, rfl⟩ := Int.eq_ofNat_of_zero_le (show 0 ≤ n by have := lok_R kb; omega)
    have hR := lok_R kb
    have hR6 : R ≤ 6 := by omega
    go_wp2_with fail
    refine (specLoopFlow_k HX.out kb A_1 B_1).mono ?_
    rintro e w2 ⟨os, rfl, S_2, hb2⟩
    have A_2 := A_1.keep hb2
    have B_2 := B_1.keep hb2
    have hbw2 := bStep hbw1 hb2
    clear A_1 B_1 hbw1 hb2
    go_wp2_with fail
    refine (implLoopFlow_k HX.out kb A_2 B_2).mono ?_
    rintro e w3 ⟨ox, rfl, X_3, hb3⟩
    have A_3 := A_2.keep hb3
    have B_3 := B_2.keep hb3
    have S_3 := S_2.keep hb3
    have hbw3 := bStep hbw2 hb3
    clear A_2 B_2 S_2 hbw2 hb3
    go_wp2_with fail
    refine (lwRows_eq (selfR _) X_3 S_3).mono ?_
    rintro e w4 ⟨rfl, hb4⟩
    have A_4 := A_3.keep hb4
    have B_4 := B_3.keep hb4
    have S_4 := S_3.keep hb4
    have X_4 := X_3.keep hb4
    have hbw4 := bStep hbw3 hb4
    clear A_3 B_3 S_3 X_3 hbw3 hb4
    by_cases hR5 : R < 6
    · have hge : ¬ ((6 : Int) ≤ (R : Int)) := by omega
      have iw : IntKind.i64.wrap ((R : Int) + 1) = (R : Int) + 1 := by rw [IntKind.wrap_i64]; omega
      obtain ⟨Y, hL_Y⟩ : ∃ zz, lflowL l1 l2 ((R : Int) + 1) = zz := ⟨_, rfl⟩
      have HY : Hid (lflowL l1 l2 ((R : Int) + 1) = Y) := hL_Y
      clear hL_Y
      have HYb : Hid (lokB l1 l2 ((R : Int) + 1) = true) := by
        have h := kb
        unfold lokB at h
        show _ = true
        unfold lokB
        simp only [Bool.and_eq_true] at h ⊢
        exact ⟨h.1, by simp [inB]; omega⟩
      have HFW : Hid ((Y.filter fun r => decide (r.1.2.2 ≤ (R : Int))) = X) := by have h := HY.out; have h2 := HX.out; subst h h2; exact lflow_more kb (by omega)
      have hYl : Y.length ≤ 400 := by have h := HY.out; subst h; exact lflow_len _ _ _
      go_wp2_with fail
      refine (implLoopFlow_k HY.out HYb.out A_4 B_4).mono ?_
      rintro e w5 ⟨oy, rfl, Y_5, hb5⟩
      have A_5 := A_4.keep hb5
      have B_5 := B_4.keep hb5
      have S_5 := S_4.keep hb5
      have X_5 := X_4.keep hb5
      have hbw5 := bStep hbw4 hb5
      clear A_4 B_4 S_4 X_4 hbw4 hb5
      obtain ⟨ax, cx, rfl, hcx, hmx, hnx, hcells⟩ := Rs.open Y_5
      unfold maxLen at hmx
      have HC := (show Hid _ from hcells)
      clear hcells
      have oE := ownR_empty w5 rfl
      have hbE := bAlloc (Below.refl w5.heap.size w5) (.cells #[] 37)
      go_wp2_with fail
      go_loopw [12, 13] (fun o i wr => ∃ k : Nat, k ≤ Y.length ∧ i = .int .i64 k ∧ OwnR wr w5.heap.size o ((Y.take k).filter fun r => decide (r.1.2.2 ≤ (R : Int))) ∧ Below w5.heap.size w5 wr) (fun _ i _ => Y.length - (intOf i).toNat)
      case atStart => exact ⟨0, by omega, rfl, oE, hbE⟩
      clear oE hbE
      obtain ⟨k, hkl, rfl, hown, hb⟩ := hrel
      have HO : Hid (OwnR wr w5.heap.size u12 ((Y.take k).filter fun r => decide (r.1.2.2 ≤ (R : Int)))) := hown
      have hfl : ((Y.take k).filter fun r => decide (r.1.2.2 ≤ (R : Int))).length ≤ 400 := Nat.le_trans (List.length_filter_le _ _) (by rw [List.length_take]; omega)
      have hsz := hb.size
      clear hown
      by_cases hlt : k < Y.length
      · obtain ⟨g, off, K, V, A, B, D, rfl, hg, hr, c0, c1, c2, c3, c4⟩ := HC.out k hlt
        have ik : ((k : Int) < (Y.length : Int)) := by omega
        have d0 := cell_below hb c0
        have d1 := cell_below hb c1
        have d2 := cell_below hb c2
        have d3 := cell_below hb c3
        have d4 := cell_below hb c4
        have HR : Hid (Y[k]? = some (((K, V), (A, B)), D)) := hr
        clear c0 c1 c2 c3 c4 hr
        by_cases hB : B ≤ (R : Int)
        · have HZ : Hid (((Y.take (k + 1)).filter fun r => decide (r.1.2.2 ≤ (R : Int))) = ((Y.take k).filter fun r => decide (r.1.2.2 ≤ (R : Int))) ++ [(((K, V), (A, B)), D)]) := by
            show _ = _; rw [take_snoc HR.out, List.filter_append]; simp [hB]
          have O2 : OwnR wr w5.heap.size u12 ((Y.take k).filter fun r => decide (r.1.2.2 ≤ (R : Int))) := HO.out
          generalize ((Y.take k).filter fun r => decide (r.1.2.2 ≤ (R : Int))) = LL at *
          go_wp2_with (at_builtin; refine appR _ rfl _ _ rfl w5.heap.size _ _ rfl (O2.alloc _) _ _ _ _ _ _ rfl (Bk.new _ _ (by simp)) (by omega) (by simp; omega) ?_; intro g3 cap3 w3 own3 hgrow hlg)
          have hb6 : Below w5.heap.size w5 w3 := Below.grew (bAlloc hb _) hgrow (by simp; omega) (ownK_base HO.out)
          go_roundw
          case rel => exact ⟨k + 1, by omega, by go_num, by rw [HZ.out]; exact own3, hb6⟩
          case measure => simp [intOf]; omega
        · have HZ : Hid (((Y.take (k + 1)).filter fun r => decide (r.1.2.2 ≤ (R : Int))) = ((Y.take k).filter fun r => decide (r.1.2.2 ≤ (R : Int)))) := by
            show _ = _; rw [take_snoc HR.out, List.filter_append]; simp [hB]
          go_wp2_with fail
          go_roundw
          case rel => exact ⟨k + 1, by omega, by go_num, by rw [HZ.out]; exact HO.out, hb⟩
          case measure => simp [intOf]; omega
      obtain rfl : k = Y.length := by omega
      have ik : ¬ ((Y.length : Int) < (Y.length : Int)) := by omega
      have HW : Rs wr u12 X := by have h := HO.out; rw [List.take_length, HFW.out] at h; rw [List.take_length, HFW.out] at hfl; exact OwnR.rs h (by omega)
      clear HO
      have A_6 := A_5.keep hb
      have B_6 := B_5.keep hb
      have S_6 := S_5.keep hb
      have X_6 := X_5.keep hb
      have Y_6 := Y_5.keep hb
      have hbw6 := bStep hbw5 hb
      clear A_5 B_5 S_5 X_5 Y_5 hbw5 hb
      go_wp2_with fail
      refine (lwRows_eq (selfR _) HW X_6).mono ?_
      rintro e w7 ⟨rfl, hb7⟩
      have A_7 := A_6.keep hb7
      have B_7 := B_6.keep hb7
      have S_7 := S_6.keep hb7
      have X_7 := X_6.keep hb7
      have Y_7 := Y_6.keep hb7
      have W_7 := HW.keep hb7
      have hbw7 := bStep hbw6 hb7
      clear A_6 B_6 S_6 X_6 Y_6 HW hbw6 hb7
      go_wp2_with fail
      go_ret
      exact ⟨rfl, hbw7⟩
    · have hge : (6 : Int) ≤ (R : Int) := by omega
      go_wp2_with fail
      refine (lwRows_eq (selfR _) X_4 S_4).mono ?_
      rintro e w5 ⟨rfl, hb5⟩
      have A_5 := A_4.keep hb5
      have B_5 := B_4.keep hb5
      have S_5 := S_4.keep hb5
      have X_5 := X_4.keep hb5
      have hbw5 := bStep hbw4 hb5
      clear A_4 B_4 S_4 X_4 hbw4 hb5
      go_wp2_with fail
      go_ret
      exact ⟨rfl, hbw5⟩
end FnLoopMore
namespace RowFnLoopMore
theorem own : ownKnob Tryz.prog.godebug = none := by kernel_rfl
set_option maxRecDepth 100000 in
theorem lifted (os : Os) (started : os.Started) (H : Type) (enc : TypeId × Value → H) :
    ReturnsInHanded {} Tryz.checked os 4 .any (Rows.fnLoopMoreSpec.pre6 enc Tryz.prog Tryz.f4 Rows.fnLoopMoreRow.domain false) (Rows.fnLoopMoreSpec.post enc Tryz.prog Tryz.f4 false true false false) := by
  refine returnsInHanded_of_change (C := Tryz.checked) own started (by kernel_rfl) Tryz.func4
    (ChangeSpec.witness6 (enc := enc) (C := Tryz.checked) false ⟨#[], #[.slice none 0 0], []⟩ 8 (by kernel_rfl) (by kernel_rfl) (by kernel_rfl) (by kernel_rfl)) ?_
  intro W base args ds gs before hval0 hW hcnd _
  have hval : ∀ (j : Nat) t v, Tryz.f4.params[j]? = some t → args[j]? = some v → Value.okWide Tryz.prog W .any base t v := hval0
  have hW' := hW
  obtain ⟨p, q, hA0, hV, rfl, hfz, hnd⟩ := hW
  have hA : DataW.TrodAll enc Tryz.prog W 0 (fun _ => true) true Tryz.f4.params.toList args.toList ds p := hA0
  rw [Tryz.params4] at hA hval
  obtain ⟨v0, vs0, d0, ds0, p0, q0, hargs, rfl, rfl, h0, r0⟩ := trodAll_cons hA
  obtain ⟨rfl, rfl, rfl⟩ := trodAll_nil r0
  obtain rfl : args = #[v0] := by cases args; simp_all
  obtain ⟨rfl, rfl⟩ := trodVars_none hV
  obtain ⟨a0, len0, cap0, rfl⟩ := okWide_slice Tryz.underlying22 (hval 0 22 v0 rfl rfl)
  have k0 := h0
  have lt0 : ∀ x ∈ p0, x.block < W.heap.size := by obtain ⟨m, hm⟩ := k0; exact DataW.trod_lt m _ _ _ hm
  have w0 : Src W (.slice a0 len0 cap0) len0 := by
    obtain ⟨fuel, hf⟩ := h0
    rcases open_ints Tryz.underlying22 Tryz.underlying5 (by kernel_rfl) hf with ⟨hcs, _⟩ | ⟨x, l, c, zs, hcs, _, hl, hm, hz, _, hcell, hwz⟩
    · simp [Value.cells] at hcs
      obtain ⟨rfl, rfl, rfl⟩ := hcs
      exact Src.nil _
    · simp [Value.cells] at hcs
      obtain ⟨rfl, rfl, rfl⟩ := hcs
      exact Src.of_row hl hm (by simpa using hz) hcell hwz
  clear hA0 hval0
  refine (FnLoopMore.walk a0 len0 cap0 W w0).mono fun e W' ⟨he, bel⟩ => ?_
  subst he
  exact ⟨_, rfl, _, _, _, [], _, [], hW', trodAll_mk1 (shut_bool Tryz.underlying4 _), (trodAll_cons_mk (Below.trod pfLaid (by kernel_rfl) (of_decide_eq_true (by kernel_rfl)) k0 bel lt0) trodAll_mk0), rfl, bel.frame _, fun h => by cases h⟩
set_option maxHeartbeats 4000000 in
theorem closed : joinedFacts Tryz.prog 4 Tryz.f4 Rows.fnLoopMoreSpec Rows.fnLoopMoreRow = true := by
  unfold joinedFacts
  exact (andB (andB (andB (andB (andB (andB (andB (andB (andB (andB (andB (andB (andB (andB (andB (andB (andB (andB (andB (andB (andB (andB (andB (andB (andB (andB (andB (andB (andB (andB (andB (by as_aux_lemma => kernel_rfl) pfLaid) pfRowed) (by as_aux_lemma => kernel_rfl)) (by as_aux_lemma => kernel_rfl)) (by as_aux_lemma => kernel_rfl)) (by as_aux_lemma => kernel_rfl)) (by as_aux_lemma => kernel_rfl)) (by as_aux_lemma => kernel_rfl)) (by as_aux_lemma => kernel_rfl)) (by as_aux_lemma => kernel_rfl)) (by as_aux_lemma => kernel_rfl)) (by as_aux_lemma => kernel_rfl)) (by as_aux_lemma => kernel_rfl)) (by as_aux_lemma => kernel_rfl)) (by as_aux_lemma => kernel_rfl)) (by as_aux_lemma => kernel_rfl)) (by as_aux_lemma => kernel_rfl)) (by as_aux_lemma => kernel_rfl)) (by as_aux_lemma => kernel_rfl)) (by as_aux_lemma => kernel_rfl)) (by as_aux_lemma => kernel_rfl)) (by as_aux_lemma => kernel_rfl)) (by as_aux_lemma => kernel_rfl)) pfHeard) pfEnter) (pfLiftB rfl)) (pfMakeB rfl)) (by as_aux_lemma => kernel_rfl)) (by as_aux_lemma => kernel_rfl)) (by as_aux_lemma => kernel_rfl)) (by as_aux_lemma => kernel_rfl))
theorem over : Rows.fnLoopMoreRow.holds Tryz.pinned (OpenSpec.ofChange Rows.fnLoopMoreSpec) :=
  OpenClaim.holds_of_wide 4 Tryz.f4 rfl rfl rfl rfl rfl rfl rfl ⟨rfl, rfl, rfl, rfl, rfl⟩ rfl rfl rfl rfl rfl (by kernel_rfl) Tryz.func4 closed
    (of_decide_eq_true (by kernel_rfl)) (by unfold Func.isWrapper; first | (rw [if_pos (by decide +kernel)]; kernel_rfl) | (rw [if_neg (by decide +kernel)]; exact ⟨rfl, rfl⟩))
    (fun os started H enc _ => lifted os started H enc)
end RowFnLoopMore
theorem fnLoopMore_holds : Rows.FnLoopMoreSaid := RowFnLoopMore.over
end Go.Proofs.YtjlaeeccnbdghaaGreat
