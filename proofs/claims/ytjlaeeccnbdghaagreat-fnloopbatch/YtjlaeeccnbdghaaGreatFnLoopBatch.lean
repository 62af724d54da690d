/- For all bytes: LoopFlow of the program answers of the batches and the rounds that they draw as the model's; its changes are a batch, and what leaves it is one, of no round; the argument reads afterwards as before. No condition. -/
import Derived.Test.YtjlaeeccnbdghaaGreatPf
import Derived.Test.YtjlaeeccnbdghaaGreatLg1
import Derived.Test.YtjlaeeccnbdghaaGreatLg2
import Derived.Test.YtjlaeeccnbdghaaGreatGd3
namespace Go.Proofs.YtjlaeeccnbdghaaGreat
open Go.ChangeShapes Go.WideShapes Go.ChangeAt Go.RowKit Go.Joins

theorem implLoopOut_k {l L : List Rw} {n : Int} (e : loutL l n = L) {v : Value} {w : World} (h : Rs w v l) :
    Calls Tryz.prog 16 #[v, .int .i64 n] w fun e w' => ∃ o : Value, e = .returned o ∧ Rs w' o L ∧ Below w.heap.size w w' :=
  ofOwnR e (by have := lout_len l n; omega) (implLoopOut_any v l n w h)
namespace FnLoopBatch
set_option maxRecDepth 100000 in
set_option maxHeartbeats 8000000 in
theorem walk (x0 : Option Addr) (len0 cap0 : Nat) (w : World) (h0 : Src w (.slice x0 len0 cap0) len0) :
    Calls Tryz.prog 7 #[.slice x0 len0 cap0] w fun e w' => e = .returned (.bool true) ∧ Below w.heap.size w w' := by
  by_cases g0 : (1048576 : Int) < (len0 : Int)
  · go_enter Tryz.func7, Tryz.ntmps7
    go_wp2_with fail
    go_ret
    exact ⟨rfl, Below.refl _ _⟩
  go_enter Tryz.func7, Tryz.ntmps7
  go_wp2_with fail
  refine (drawLoopFlow_any _ _ _ _ h0).mono ?_
  rintro e w1 ⟨o1, o2, l1, l2, n, rfl, hl1, hl2, hn0, hn7, A_1, B_1, hb1⟩
  have hbw1 := hb1
  clear h0 hb1
  obtain ⟨X, hL_X⟩ : ∃ zz, lflowL l1 l2 n = zz := ⟨_, rfl⟩
  have HX : Hid (lflowL l1 l2 n = X) := hL_X
  clear hL_X
  cases kb : lokB l1 l2 n
  · go_wp2_with fail
    refine (implLoopFlow_k HX.out kb A_1 B_1).mono ?_
    rintro e w2 ⟨ox, rfl, X_2, hb2⟩
    have A_2 := A_1.keep hb2
    have B_2 := B_1.keep hb2
    have hbw2 := bStep hbw1 hb2
    clear A_1 B_1 hbw1 hb2
    go_wp2_with fail
    refine (specLoopFlow_k HX.out kb A_2 B_2).mono ?_
    rintro e w3 ⟨os, rfl, S_3, hb3⟩
    have A_3 := A_2.keep hb3
    have B_3 := B_2.keep hb3
    have X_3 := X_2.keep hb3
    have hbw3 := bStep hbw2 hb3
    clear A_2 B_2 X_2 hbw2 hb3
    go_wp2_with fail
    refine (lwRows_eq (selfR _) X_3 S_3).mono ?_
    rintro e w4 ⟨rfl, hb4⟩
    have A_4 := A_3.keep hb4
    have B_4 := B_3.keep hb4
    have X_4 := X_3.keep hb4
    have S_4 := S_3.keep hb4
    have hbw4 := bStep hbw3 hb4
    clear A_3 B_3 X_3 S_3 hbw3 hb4
    go_wp2_with fail
    refine (lwRows_eq (selfR _) X_4 S_4).mono ?_
    rintro e w5 ⟨rfl, hb5⟩
    have A_5 := A_4.keep hb5
    have B_5 := B_4.keep hb5
    have X_5 := X_4.keep hb5
    have S_5 := S_4.keep hb5
    have hbw5 := bStep hbw4 hb5
    clear A_4 B_4 X_4 S_4 hbw4 hb5
    go_wp2_with fail
    go_ret
    exact ⟨rfl, hbw5⟩
  · obtain ⟨R, rfl⟩ := Int.eq_ofNat_of_zero_le (show 0 ≤ n by have := lok_R kb; omega)
    have hR := lok_R kb
    have hR6 : R ≤ 6 := by omega
    go_wp2_with fail
    refine (implLoopFlow_k HX.out kb A_1 B_1).mono ?_
    rintro e w2 ⟨ox, rfl, X_2, hb2⟩
    have A_2 := A_1.keep hb2
    have B_2 := B_1.keep hb2
    have hbw2 := bStep hbw1 hb2
    clear A_1 B_1 hbw1 hb2
    go_wp2_with fail
    refine (specLoopFlow_k HX.out kb A_2 B_2).mono ?_
    rintro e w3 ⟨os, rfl, S_3, hb3⟩
    have A_3 := A_2.keep hb3
    have B_3 := B_2.keep hb3
    have X_3 := X_2.keep hb3
    have hbw3 := bStep hbw2 hb3
    clear A_2 B_2 X_2 hbw2 hb3
    go_wp2_with fail
    refine (lwRows_eq (selfR _) X_3 S_3).mono ?_
    rintro e w4 ⟨rfl, hb4⟩
    have A_4 := A_3.keep hb4
    have B_4 := B_3.keep hb4
    have X_4 := X_3.keep hb4
    have S_4 := S_3.keep hb4
    have hbw4 := bStep hbw3 hb4
    clear A_3 B_3 X_3 S_3 hbw3 hb4
    obtain ⟨Y, hL_Y⟩ : ∃ zz, loutL X (R : Int) = zz := ⟨_, rfl⟩
    have HY : Hid (loutL X (R : Int) = Y) := hL_Y
    clear hL_Y
    have HBX : Hid (bokB X = true) := by have h := HX.out; subst h; exact lflow_bok kb
    have HBY : Hid (bokB Y = true) := by have h := HY.out; subst h; exact lout_bok _ _
    have H1 : Hid (∀ r ∈ Y, r.1.2.2 = 0) := by have h := HY.out; subst h; exact fun r hr => lout_rounds hr
    go_wp2_with fail
    refine (implLoopOut_k HY.out X_4).mono ?_
    rintro e w5 ⟨oy, rfl, Y_5, hb5⟩
    have A_5 := A_4.keep hb5
    have B_5 := B_4.keep hb5
    have X_5 := X_4.keep hb5
    have S_5 := S_4.keep hb5
    have hbw5 := bStep hbw4 hb5
    clear A_4 B_4 X_4 S_4 hbw4 hb5
    obtain ⟨ax, cx, rfl, hcx, hmx, hnx, hcells⟩ := Rs.open Y_5
    unfold maxLen at hmx
    have HC := (show Hid _ from hcells)
    clear hcells
    go_wp2_with fail
    go_loopw [11] (fun i wr => ∃ k : Nat, k ≤ Y.length ∧ i = .int .i64 k ∧ Below w5.heap.size w5 wr) (fun i _ => Y.length - (intOf i).toNat)
    case atStart => exact ⟨0, by omega, rfl, Below.refl _ _⟩
    obtain ⟨k, hkl, rfl, hb⟩ := hrel
    by_cases hlt : k < Y.length
    · obtain ⟨g, off, K, V, A, B, D, rfl, hg, hr, c0, c1, c2, c3, c4⟩ := HC.out k hlt
      have ik : ((k : Int) < (Y.length : Int)) := by omega
      have e1 := H1.out _ (List.mem_of_getElem? hr)
      simp only at e1
      subst e1
      have d1 := cell_below hb c1
      have d3 := cell_below hb c3
      clear c0 c1 c2 c3 c4 hr
      go_wp2_with fail
      go_roundw
      case rel => exact ⟨k + 1, by omega, by go_num, hb⟩
      case measure => simp [intOf]; omega
    obtain rfl : k = Y.length := by omega
    have ik : ¬ ((Y.length : Int) < (Y.length : Int)) := by omega
    have A_6 := A_5.keep hb
    have B_6 := B_5.keep hb
    have X_6 := X_5.keep hb
    have S_6 := S_5.keep hb
    have Y_6 := Y_5.keep hb
    have hbw6 := bStep hbw5 hb
    clear A_5 B_5 X_5 S_5 Y_5 hbw5 hb
    go_wp2_with fail
    refine (implBatchOk_eq HBX.out X_6).mono ?_
    rintro e w7 ⟨rfl, hb7⟩
    have A_7 := A_6.keep hb7
    have B_7 := B_6.keep hb7
    have X_7 := X_6.keep hb7
    have S_7 := S_6.keep hb7
    have Y_7 := Y_6.keep hb7
    have hbw7 := bStep hbw6 hb7
    clear A_6 B_6 X_6 S_6 Y_6 hbw6 hb7
    go_wp2_with fail
    refine (implBatchOk_eq HBY.out Y_7).mono ?_
    rintro e w8 ⟨rfl, hb8⟩
    have A_8 := A_7.keep hb8
    have B_8 := B_7.keep hb8
    have X_8 := X_7.keep hb8
    have S_8 := S_7.keep hb8
    have Y_8 := Y_7.keep hb8
    have hbw8 := bStep hbw7 hb8
    clear A_7 B_7 X_7 S_7 Y_7 hbw7 hb8
    go_wp2_with fail
    go_ret
    exact ⟨rfl, hbw8⟩
end FnLoopBatch
namespace RowFnLoopBatch
theorem own : ownKnob Tryz.prog.godebug = none := by kernel_rfl
set_option maxRecDepth 100000 in
theorem lifted (os : Os) (started : os.Started) (H : Type) (enc : TypeId × Value → H) :
    ReturnsInHanded {} Tryz.checked os 7 .any (Rows.fnLoopBatchSpec.pre6 enc Tryz.prog Tryz.f7 Rows.fnLoopBatchRow.domain false) (Rows.fnLoopBatchSpec.post enc Tryz.prog Tryz.f7 false true false false) := by
  refine returnsInHanded_of_change (C := Tryz.checked) own started (by kernel_rfl) Tryz.func7
    (ChangeSpec.witness6 (enc := enc) (C := Tryz.checked) false ⟨#[], #[.slice none 0 0], []⟩ 8 (by kernel_rfl) (by kernel_rfl) (by kernel_rfl) (by kernel_rfl)) ?_
  intro W base args ds gs before hval0 hW hcnd _
  have hval : ∀ (j : Nat) t v, Tryz.f7.params[j]? = some t → args[j]? = some v → Value.okWide Tryz.prog W .any base t v := hval0
  have hW' := hW
  obtain ⟨p, q, hA0, hV, rfl, hfz, hnd⟩ := hW
  have hA : DataW.TrodAll enc Tryz.prog W 0 (fun _ => true) true Tryz.f7.params.toList args.toList ds p := hA0
  rw [Tryz.params7] at hA hval
  obtain ⟨v0, vs0, d0, ds0, p0, q0, hargs, rfl, rfl, h0, r0⟩ := trodAll_cons hA
  obtain ⟨rfl, rfl, rfl⟩ := trodAll_nil r0
  obtain rfl : args = #[v0] := by cases args; simp_all
  obtain ⟨rfl, rfl⟩ := trodVars_none hV
  obtain ⟨a0, len0, cap0, rfl⟩ := okWide_slice Tryz.underlying22 (hval 0 22 v0 rfl rfl)
  have k0 := h0
  have lt0 : ∀ x ∈ p0, x.block < W.heap.size := by obtain ⟨m, hm⟩ := k0; exact DataW.trod_lt m _ _ _ hm
  have w0 : Src W (.slice a0 len0 cap0) len0 := by
    obtain ⟨fuel, hf⟩ := h0
    rcases open_ints Tryz.underlying22 Tryz.underlying5 (by kernel_rfl) hf with ⟨hcs, _⟩ | ⟨x, l, c, zs, hcs, _, hl, hm, hz, _, hcell, hwz⟩
    · simp [Value.cells] at hcs
      obtain ⟨rfl, rfl, rfl⟩ := hcs
      exact Src.nil _
    · simp [Value.cells] at hcs
      obtain ⟨rfl, rfl, rfl⟩ := hcs
      exact Src.of_row hl hm (by simpa using hz) hcell hwz
  clear hA0 hval0
  refine (FnLoopBatch.walk a0 len0 cap0 W w0).mono fun e W' ⟨he, bel⟩ => ?_
  subst he
  exact ⟨_, rfl, _, _, _, [], _, [], hW', trodAll_mk1 (shut_bool Tryz.underlying4 _), (trodAll_cons_mk (Below.trod pfLaid (by kernel_rfl) (of_decide_eq_true (by kernel_rfl)) k0 bel lt0) trodAll_mk0), rfl, bel.frame _, fun h => by cases h⟩
set_option maxHeartbeats 4000000 in
theorem closed : joinedFacts Tryz.prog 7 Tryz.f7 Rows.fnLoopBatchSpec Rows.fnLoopBatchRow = true := by
  unfold joinedFacts
  exact (andB (andB (andB (andB (andB (andB (andB (andB (andB (andB (andB (andB (andB (andB (andB (andB (andB (andB (andB (andB (andB (andB (andB (andB (andB (andB (andB (andB (andB (andB (andB (by as_aux_lemma => kernel_rfl) pfLaid) pfRowed) (by as_aux_lemma => kernel_rfl)) (by as_aux_lemma => kernel_rfl)) (by as_aux_lemma => kernel_rfl)) (by as_aux_lemma => kernel_rfl)) (by as_aux_lemma => kernel_rfl)) (by as_aux_lemma => kernel_rfl)) (by as_aux_lemma => kernel_rfl)) (by as_aux_lemma => kernel_rfl)) (by as_aux_lemma => kernel_rfl)) (by as_aux_lemma => kernel_rfl)) (by as_aux_lemma => kernel_rfl)) (by as_aux_lemma => kernel_rfl)) (by as_aux_lemma => kernel_rfl)) (by as_aux_lemma => kernel_rfl)) (by as_aux_lemma => kernel_rfl)) (by as_aux_lemma => kernel_rfl)) (by as_aux_lemma => kernel_rfl)) (by as_aux_lemma => kernel_rfl)) (by as_aux_lemma => kernel_rfl)) (by as_aux_lemma => kernel_rfl)) (by as_aux_lemma => kernel_rfl)) pfHeard) pfEnter) (pfLiftB rfl)) (pfMakeB rfl)) (by as_aux_lemma => kernel_rfl)) (by as_aux_lemma => kernel_rfl)) (by as_aux_lemma => kernel_rfl)) (by as_aux_lemma => kernel_rfl))
theorem over : Rows.fnLoopBatchRow.holds Tryz.pinned (OpenSpec.ofChange Rows.fnLoopBatchSpec) :=
  OpenClaim.holds_of_wide 7 Tryz.f7 rfl rfl rfl rfl rfl rfl rfl ⟨rfl, rfl, rfl, rfl, rfl⟩ rfl rfl rfl rfl rfl (by kernel_rfl) Tryz.func7 closed
    (of_decide_eq_true (by kernel_rfl)) (by unfold Func.isWrapper; first | (rw [if_pos (by decide +kernel)]; kernel_rfl) | (rw [if_neg (by decide +kernel)]; exact ⟨rfl, rfl⟩))
    (fun os started H enc _ => lifted os started H enc)
end RowFnLoopBatch
theorem fnLoopBatch_holds : Rows.FnLoopBatchSaid := RowFnLoopBatch.over
end Go.Proofs.YtjlaeeccnbdghaaGreat
