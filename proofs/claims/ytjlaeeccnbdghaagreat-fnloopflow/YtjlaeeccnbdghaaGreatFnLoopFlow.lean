/- For all bytes: LoopFlow of the program answers of the batches and the rounds that they draw as the model's; its changes sum up to what is come to, at all times and rounds; the argument reads afterwards as before. No condition. -/
import Derived.Test.YtjlaeeccnbdghaaGreatPf
import Derived.Test.YtjlaeeccnbdghaaGreatLg1
import Derived.Test.YtjlaeeccnbdghaaGreatLg2
import Derived.Test.YtjlaeeccnbdghaaGreatGd3
namespace Go.Proofs.YtjlaeeccnbdghaaGreat
open Go.ChangeShapes Go.WideShapes Go.ChangeAt Go.RowKit Go.Joins

namespace FnLoopFlow
set_option maxRecDepth 100000 in
set_option maxHeartbeats 8000000 in
theorem walk (x0 : Option Addr) (len0 cap0 : Nat) (w : World) (h0 : Src w (.slice x0 len0 cap0) len0) :
    Calls Tryz.prog 3 #[.slice x0 len0 cap0] w fun e w' => e = .returned (.bool true) ∧ Below w.heap.size w w' := by
  by_cases g0 : (1048576 : Int) < (len0 : Int)
  · go_enter Tryz.func3, Tryz.ntmps3
    go_wp2_with fail
    go_ret
    exact ⟨rfl, Below.refl _ _⟩
  go_enter Tryz.func3, Tryz.ntmps3
  go_wp2_with fail
  refine (drawLoopFlow_any _ _ _ _ h0).mono ?_
  rintro e w1 ⟨o1, o2, l1, l2, n, rfl, hl1, hl2, hn0, hn7, A_1, B_1, hb1⟩
  have hbw1 := hb1
  clear h0 hb1
  obtain ⟨X, hL_X⟩ : ∃ zz, lflowL l1 l2 n = zz := ⟨_, rfl⟩
  have HX : Hid (lflowL l1 l2 n = X) := hL_X
  clear hL_X
  cases kb : lokB l1 l2 n
  · go_wp2_with fail
    refine (specLoopFlow_k HX.out kb A_1 B_1).mono ?_
    rintro e w2 ⟨os, rfl, S_2, hb2⟩
    have A_2 := A_1.keep hb2
    have B_2 := B_1.keep hb2
    have hbw2 := bStep hbw1 hb2
    clear A_1 B_1 hbw1 hb2
    go_wp2_with fail
    refine (implLoopFlow_k HX.out kb A_2 B_2).mono ?_
    rintro e w3 ⟨ox, rfl, X_3, hb3⟩
    have A_3 := A_2.keep hb3
    have B_3 := B_2.keep hb3
    have S_3 := S_2.keep hb3
    have hbw3 := bStep hbw2 hb3
    clear A_2 B_2 S_2 hbw2 hb3
    go_wp2_with fail
    refine (lwRows_eq (selfR _) X_3 S_3).mono ?_
    rintro e w4 ⟨rfl, hb4⟩
    have A_4 := A_3.keep hb4
    have B_4 := B_3.keep hb4
    have S_4 := S_3.keep hb4
    have X_4 := X_3.keep hb4
    have hbw4 := bStep hbw3 hb4
    clear A_3 B_3 S_3 X_3 hbw3 hb4
    have HX0 : Hid (X = []) := by have h := HX.out; subst h; show _ = []; simp [lflowL, kb]
    go_wp2_with fail
    refine (lwRows_eq (selfR _) X_4 S_4).mono ?_
    rintro e w5 ⟨rfl, hb5⟩
    have A_5 := A_4.keep hb5
    have B_5 := B_4.keep hb5
    have S_5 := S_4.keep hb5
    have X_5 := X_4.keep hb5
    have hbw5 := bStep hbw4 hb5
    clear A_4 B_4 S_4 X_4 hbw4 hb5
    obtain ⟨ay, cy, hy, -⟩ := X_5
    have hy2 : ox = .slice ay 0 cy := by rw [HX0.out] at hy; exact hy
    subst hy2
    clear hy
    go_wp2_with fail
    go_ret
    exact ⟨rfl, hbw5⟩
  · obtain ⟨R, rfl⟩ := Int.eq_ofNat_of_zero_le (show 0 ≤ n by have := lok_R kb; omega)
    have hR := lok_R kb
    have hR6 : R ≤ 6 := by omega
    go_wp2_with fail
    refine (specLoopFlow_k HX.out kb A_1 B_1).mono ?_
    rintro e w2 ⟨os, rfl, S_2, hb2⟩
    have A_2 := A_1.keep hb2
    have B_2 := B_1.keep hb2
    have hbw2 := bStep hbw1 hb2
    clear A_1 B_1 hbw1 hb2
    go_wp2_with fail
    refine (implLoopFlow_k HX.out kb A_2 B_2).mono ?_
    rintro e w3 ⟨ox, rfl, X_3, hb3⟩
    have A_3 := A_2.keep hb3
    have B_3 := B_2.keep hb3
    have S_3 := S_2.keep hb3
    have hbw3 := bStep hbw2 hb3
    clear A_2 B_2 S_2 hbw2 hb3
    go_wp2_with fail
    refine (lwRows_eq (selfR _) X_3 S_3).mono ?_
    rintro e w4 ⟨rfl, hb4⟩
    have A_4 := A_3.keep hb4
    have B_4 := B_3.keep hb4
    have S_4 := S_3.keep hb4
    have X_4 := X_3.keep hb4
    have hbw4 := bStep hbw3 hb4
    clear A_3 B_3 S_3 X_3 hbw3 hb4
    have HIT : Hid (∀ a b : Nat, a < 8 → b ≤ R → itemsL X a b = vL l1 l2 a b) := by have h := HX.out; subst h; exact fun a b ha hb => lflow_items kb ha hb
    have HT : Hid (∀ W, Below w4.heap.size w4 W → Rs W o1 l1) := fun W hW => SlK.keep A_4 hW
    have HF : Hid (∀ W, Below w4.heap.size w4 W → Rs W o2 l2) := fun W hW => SlK.keep B_4 hW
    have HXX : Hid (∀ W, Below w4.heap.size w4 W → Rs W ox X) := fun W hW => SlK.keep X_4 hW
    go_wp2_with fail
    go_loopw [10] (fun i wr => ∃ A : Nat, A ≤ 8 ∧ i = .int .i64 (A : Int) ∧ Below w4.heap.size w4 wr) (fun i _ => 8 - (intOf i).toNat)
    case atStart => exact ⟨0, by omega, rfl, Below.refl _ _⟩
    obtain ⟨A, hA8, rfl, hb⟩ := hrel
    by_cases hA : A < 8
    · have ia : (A : Int) ≤ 7 := by omega
      have bX := Bk.new (w := wr) #[.int .i64 (A : Int), .int .i64 0] 30 rfl
      have hbX : Below w4.heap.size w4 (wr.alloc (.cells #[.int .i64 (A : Int), .int .i64 0] 30)) := bAlloc hb _
      go_upto_region 12 with fail
      generalize (wr.alloc (.cells #[.int .i64 (A : Int), .int .i64 0] 30)) = W0 at *
      generalize wr.heap.size = xb at *
      clear hb
      go_wp2_with fail
      go_loopw [12] (fun b wr => ∃ j : Nat, j ≤ R ∧ b = .int .i64 ((j : Int) + 1) ∧ Bk wr xb #[.int .i64 (A : Int), .int .i64 0] 30 ∧ Below w4.heap.size w4 wr) (fun b _ => R + 1 - (intOf b).toNat)
      case atStart => exact ⟨0, by omega, rfl, bX, hbX⟩
      clear bX hbX
      obtain ⟨j, hjR, rfl, bX, hbW⟩ := hrel
      by_cases hj : j < R
      · have ij : (j : Int) + 1 ≤ (R : Int) := by omega
        obtain ⟨W1, hW1⟩ : ∃ W1, W1 = wr := ⟨_, rfl⟩
        subst hW1
        have HX2 : Hid (∀ V', Below W1.heap.size W1 V' → V'.cell? ⟨xb, 0, none⟩ = some (.int .i64 (A : Int)) ∧ V'.cell? ⟨xb, 1, none⟩ = some (.int .i64 0)) := fun V' hV => ⟨(bX.keep hV).two.1, (bX.keep hV).two.2.1⟩
        have HBX : Hid (∀ V', Below W1.heap.size W1 V' → Bk V' xb #[.int .i64 (A : Int), .int .i64 0] 30) := fun V' hV => bX.keep hV
        have HW1 : Hid (∀ V', Below W1.heap.size W1 V' → Below w4.heap.size w4 V') := fun V' hV => bStep hbW hV
        have hbP : Below W1.heap.size W1 W1.drew := (Below.refl _ _).drew
        obtain ⟨x0, x1⟩ := HX2.out _ (Below.refl _ _)
        have HE : Hid (itemsL X A ((j : Int) + 1) = setL (itemsL l1 A 0) (itemsL l2 A 0) ((j : Int) + 1)) := HIT.out A (j + 1) hA (by omega)
        have hsl := setL_len (itemsL l1 A 0) (itemsL l2 A 0) ((j : Int) + 1)
        clear bX hbW
        go_wp2_with fail
        go_region_held3 (fun V' => V'.cell? ⟨xb, 0, none⟩ = some (.int .i64 (A : Int)) ∧ V'.cell? ⟨xb, 1, none⟩ = some (.int .i64 0))
          (first | exact HX2.out _ hS | exact HX2.out _ hf | exact HX2.out _ hTa | exact HX2.out _ hFa | exact HX2.out _ hbP)
          (first
            | (go_at_call 14; with_reducible refine (implAt_any o2 l2 A 0 _ (HF.out _ (HW1.out _ hTa))).mono ?_; rintro e wf ⟨oF, rfl, ownf, hbf⟩; have hf : Below W1.heap.size W1 wf := bStep hTa hbf; have ITf : Is wf oT (itemsL l1 A 0) := SlK.keep ITa hbf; have IFf : Is wf oF (itemsL l2 A 0) := OwnI.is ownf (by have := items_len l2 A 0; omega))
            | (go_at_call 14; with_reducible refine (implAt_any o1 l1 A 0 _ (HT.out _ (HW1.out _ hFa))).mono ?_; rintro e wf ⟨oT, rfl, ownf, hbf⟩; have hf : Below W1.heap.size W1 wf := bStep hFa hbf; have IFf : Is wf oF (itemsL l2 A 0) := SlK.keep IFa hbf; have ITf : Is wf oT (itemsL l1 A 0) := OwnI.is ownf (by have := items_len l1 A 0; omega))
            | (go_at_call 14; with_reducible refine (implAt_any o1 l1 A 0 _ (HT.out _ (HW1.out _ hbP))).mono ?_; rintro e wT ⟨oT, rfl, owna, hba⟩; have hTa : Below W1.heap.size W1 wT := bStep hbP hba; have ITa : Is wT oT (itemsL l1 A 0) := OwnI.is owna (by have := items_len l1 A 0; omega))
            | (go_at_call 14; with_reducible refine (implAt_any o2 l2 A 0 _ (HF.out _ (HW1.out _ hbP))).mono ?_; rintro e wF ⟨oF, rfl, owna, hba⟩; have hFa : Below W1.heap.size W1 wF := bStep hbP hba; have IFa : Is wF oF (itemsL l2 A 0) := OwnI.is owna (by have := items_len l2 A 0; omega))
            | (go_at_call 13; refine (implLoopSet_any oT oF (itemsL l1 A 0) (itemsL l2 A 0) ((j : Int) + 1) _ ITf IFf).mono ?_; rintro e wS ⟨oS, rfl, ownS, hbS⟩; have hS : Below W1.heap.size W1 wS := bStep hf hbS; have IS : Is wS oS (setL (itemsL l1 A 0) (itemsL l2 A 0) ((j : Int) + 1)) := OwnI.is ownS (by omega)))
        all_goals
          go_wp2_with fail
          refine (implAt_any ox X A ((j : Int) + 1) _ (HXX.out _ (HW1.out _ hS))).mono ?_
          rintro e w7 ⟨o7, rfl, own7, hb7⟩
          have h7 := bStep hS hb7
          have I7 : Is w7 o7 (itemsL X A ((j : Int) + 1)) := OwnI.is own7 (by have := items_len X A ((j : Int) + 1); omega)
          have IS7 := SlK.keep IS hb7
          clear own7
          go_wp2_with fail
          refine (lwItems_eq (decide_eq_true HE.out) I7 IS7).mono ?_
          rintro e w8 ⟨rfl, hb8⟩
          have h8 := bStep h7 hb8
          have hB8 := HBX.out _ h8
          have hW8 := HW1.out _ h8
          go_wp2_with fail
          go_roundw
          case rel => exact ⟨j + 1, by omega, by go_num, hB8, hW8⟩
          case measure => simp [intOf]; omega
      · obtain rfl : j = R := by omega
        have ij : ¬ ((j : Int) + 1 ≤ (j : Int)) := by omega
        go_wp2_with fail
        go_roundw
        case rel => exact ⟨A + 1, by omega, by go_num, hbW⟩
        case measure => simp [intOf]; omega
    obtain rfl : A = 8 := by omega
    have ia : ¬ (((8 : Nat) : Int) ≤ 7) := by omega
    have A_5 := A_4.keep hb
    have B_5 := B_4.keep hb
    have S_5 := S_4.keep hb
    have X_5 := X_4.keep hb
    have hbw5 := bStep hbw4 hb
    clear A_4 B_4 S_4 X_4 hbw4 hb
    go_wp2_with fail
    go_ret
    exact ⟨rfl, hbw5⟩
end FnLoopFlow
namespace RowFnLoopFlow
theorem own : ownKnob Tryz.prog.godebug = none := by kernel_rfl
set_option maxRecDepth 100000 in
theorem lifted (os : Os) (started : os.Started) (H : Type) (enc : TypeId × Value → H) :
    ReturnsInHanded {} Tryz.checked os 3 .any (Rows.fnLoopFlowSpec.pre6 enc Tryz.prog Tryz.f3 Rows.fnLoopFlowRow.domain false) (Rows.fnLoopFlowSpec.post enc Tryz.prog Tryz.f3 false true false false) := by
  refine returnsInHanded_of_change (C := Tryz.checked) own started (by kernel_rfl) Tryz.func3
    (ChangeSpec.witness6 (enc := enc) (C := Tryz.checked) false ⟨#[], #[.slice none 0 0], []⟩ 8 (by kernel_rfl) (by kernel_rfl) (by kernel_rfl) (by kernel_rfl)) ?_
  intro W base args ds gs before hval0 hW hcnd _
  have hval : ∀ (j : Nat) t v, Tryz.f3.params[j]? = some t → args[j]? = some v → Value.okWide Tryz.prog W .any base t v := hval0
  have hW' := hW
  obtain ⟨p, q, hA0, hV, rfl, hfz, hnd⟩ := hW
  have hA : DataW.TrodAll enc Tryz.prog W 0 (fun _ => true) true Tryz.f3.params.toList args.toList ds p := hA0
  rw [Tryz.params3] at hA hval
  obtain ⟨v0, vs0, d0, ds0, p0, q0, hargs, rfl, rfl, h0, r0⟩ := trodAll_cons hA
  obtain ⟨rfl, rfl, rfl⟩ := trodAll_nil r0
  obtain rfl : args = #[v0] := by cases args; simp_all
  obtain ⟨rfl, rfl⟩ := trodVars_none hV
  obtain ⟨a0, len0, cap0, rfl⟩ := okWide_slice Tryz.underlying22 (hval 0 22 v0 rfl rfl)
  have k0 := h0
  have lt0 : ∀ x ∈ p0, x.block < W.heap.size := by obtain ⟨m, hm⟩ := k0; exact DataW.trod_lt m _ _ _ hm
  have w0 : Src W (.slice a0 len0 cap0) len0 := by
    obtain ⟨fuel, hf⟩ := h0
    rcases open_ints Tryz.underlying22 Tryz.underlying5 (by kernel_rfl) hf with ⟨hcs, _⟩ | ⟨x, l, c, zs, hcs, _, hl, hm, hz, _, hcell, hwz⟩
    · simp [Value.cells] at hcs
      obtain ⟨rfl, rfl, rfl⟩ := hcs
      exact Src.nil _
    · simp [Value.cells] at hcs
      obtain ⟨rfl, rfl, rfl⟩ := hcs
      exact Src.of_row hl hm (by simpa using hz) hcell hwz
  clear hA0 hval0
  refine (FnLoopFlow.walk a0 len0 cap0 W w0).mono fun e W' ⟨he, bel⟩ => ?_
  subst he
  exact ⟨_, rfl, _, _, _, [], _, [], hW', trodAll_mk1 (shut_bool Tryz.underlying4 _), (trodAll_cons_mk (Below.trod pfLaid (by kernel_rfl) (of_decide_eq_true (by kernel_rfl)) k0 bel lt0) trodAll_mk0), rfl, bel.frame _, fun h => by cases h⟩
set_option maxHeartbeats 4000000 in
theorem closed : joinedFacts Tryz.prog 3 Tryz.f3 Rows.fnLoopFlowSpec Rows.fnLoopFlowRow = true := by
  unfold joinedFacts
  exact (andB (andB (andB (andB (andB (andB (andB (andB (andB (andB (andB (andB (andB (andB (andB (andB (andB (andB (andB (andB (andB (andB (andB (andB (andB (andB (andB (andB (andB (andB (andB (by as_aux_lemma => kernel_rfl) pfLaid) pfRowed) (by as_aux_lemma => kernel_rfl)) (by as_aux_lemma => kernel_rfl)) (by as_aux_lemma => kernel_rfl)) (by as_aux_lemma => kernel_rfl)) (by as_aux_lemma => kernel_rfl)) (by as_aux_lemma => kernel_rfl)) (by as_aux_lemma => kernel_rfl)) (by as_aux_lemma => kernel_rfl)) (by as_aux_lemma => kernel_rfl)) (by as_aux_lemma => kernel_rfl)) (by as_aux_lemma => kernel_rfl)) (by as_aux_lemma => kernel_rfl)) (by as_aux_lemma => kernel_rfl)) (by as_aux_lemma => kernel_rfl)) (by as_aux_lemma => kernel_rfl)) (by as_aux_lemma => kernel_rfl)) (by as_aux_lemma => kernel_rfl)) (by as_aux_lemma => kernel_rfl)) (by as_aux_lemma => kernel_rfl)) (by as_aux_lemma => kernel_rfl)) (by as_aux_lemma => kernel_rfl)) pfHeard) pfEnter) (pfLiftB rfl)) (pfMakeB rfl)) (by as_aux_lemma => kernel_rfl)) (by as_aux_lemma => kernel_rfl)) (by as_aux_lemma => kernel_rfl)) (by as_aux_lemma => kernel_rfl))
theorem over : Rows.fnLoopFlowRow.holds Tryz.pinned (OpenSpec.ofChange Rows.fnLoopFlowSpec) :=
  OpenClaim.holds_of_wide 3 Tryz.f3 rfl rfl rfl rfl rfl rfl rfl ⟨rfl, rfl, rfl, rfl, rfl⟩ rfl rfl rfl rfl rfl (by kernel_rfl) Tryz.func3 closed
    (of_decide_eq_true (by kernel_rfl)) (by unfold Func.isWrapper; first | (rw [if_pos (by decide +kernel)]; kernel_rfl) | (rw [if_neg (by decide +kernel)]; exact ⟨rfl, rfl⟩))
    (fun os started H enc _ => lifted os started H enc)
end RowFnLoopFlow
theorem fnLoopFlow_holds : Rows.FnLoopFlowSaid := RowFnLoopFlow.over
end Go.Proofs.YtjlaeeccnbdghaaGreat
