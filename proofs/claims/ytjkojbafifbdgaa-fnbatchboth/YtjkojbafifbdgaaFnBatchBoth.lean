/- For all bytes: BatchBoth of the program makes of the two lists of rows that they draw what the model makes of them, a batch that says at all times what both say together; the argument reads afterwards as before. No condition. -/
import Derived.Test.YtjkojbafifbdgaaPf
import Derived.Test.YtjkojbafifbdgaaGk2
namespace Go.Proofs.Ytjkojbafifbdgaa
open Go.ChangeShapes Go.WideShapes Go.ChangeAt Go.RowKit Go.Joins

namespace FnBatchBoth
set_option maxRecDepth 100000 in
set_option maxHeartbeats 8000000 in
theorem walk (x0 : Option Addr) (len0 cap0 : Nat) (w : World) (h0 : Src w (.slice x0 len0 cap0) len0) :
    Calls Try.prog 3 #[.slice x0 len0 cap0] w fun e w' => e = .returned (.bool true) ∧ Below w.heap.size w w' := by
  by_cases g0 : (1048576 : Int) < (len0 : Int)
  · go_enter Try.func3, Try.ntmps3
    go_wp2_with fail
    go_ret
    exact ⟨rfl, Below.refl _ _⟩
  go_enter Try.func3, Try.ntmps3
  go_wp2_with fail
  refine (drawBatchBoth_any _ _ _ _ h0).mono ?_
  rintro e w1 ⟨oa, ob, a, b, rfl, hda, hdb, R_1, T_1, hb1⟩
  have hbw1 := hb1
  clear h0 hb1
  obtain ⟨L, hL_L⟩ : ∃ zz, bothB a b = zz := ⟨_, rfl⟩
  have HL : Hid (bothB a b = L) := hL_L
  clear hL_L
  go_wp2_with fail
  refine (implBothB_k HL.out R_1 T_1).mono ?_
  rintro e w2 ⟨ox, rfl, X_2, hb2⟩
  have R_2 := R_1.keep hb2
  have T_2 := T_1.keep hb2
  have hbw2 := bStep hbw1 hb2
  clear R_1 T_1 hbw1 hb2
  go_wp2_with fail
  refine (specBothB_k HL.out R_2 T_2).mono ?_
  rintro e w3 ⟨os, rfl, S_3, hb3⟩
  have R_3 := R_2.keep hb3
  have T_3 := T_2.keep hb3
  have X_3 := X_2.keep hb3
  have hbw3 := bStep hbw2 hb3
  clear R_2 T_2 X_2 hbw2 hb3
  go_wp2_with fail
  refine (lwRows_eq (selfR _) X_3 S_3).mono ?_
  rintro e w4 ⟨rfl, hb4⟩
  have R_4 := R_3.keep hb4
  have T_4 := T_3.keep hb4
  have X_4 := X_3.keep hb4
  have hbw4 := bStep hbw3 hb4
  clear R_3 T_3 X_3 S_3 hbw3 hb4
  cases hk : rokB a
  · go_wp2_with fail
    refine (specRowsOk_eq hk R_4).mono ?_
    rintro e w5 ⟨rfl, hb5⟩
    have R_5 := R_4.keep hb5
    have T_5 := T_4.keep hb5
    have X_5 := X_4.keep hb5
    have hbw5 := bStep hbw4 hb5
    clear R_4 T_4 X_4 hbw4 hb5
    go_wp2_with fail
    refine (specBothB_k HL.out R_5 T_5).mono ?_
    rintro e w6 ⟨os, rfl, S_6, hb6⟩
    have R_6 := R_5.keep hb6
    have T_6 := T_5.keep hb6
    have X_6 := X_5.keep hb6
    have hbw6 := bStep hbw5 hb6
    clear R_5 T_5 X_5 hbw5 hb6
    go_wp2_with fail
    refine (lwRows_eq (selfR _) X_6 S_6).mono ?_
    rintro e w7 ⟨rfl, hb7⟩
    have R_7 := R_6.keep hb7
    have T_7 := T_6.keep hb7
    have X_7 := X_6.keep hb7
    have S_7 := S_6.keep hb7
    have hbw7 := bStep hbw6 hb7
    clear R_6 T_6 X_6 S_6 hbw6 hb7
    go_wp2_with fail
    go_ret
    exact ⟨rfl, hbw7⟩
  · cases hk2 : rokB b
    · go_wp2_with fail
      refine (specRowsOk_eq hk R_4).mono ?_
      rintro e w5 ⟨rfl, hb5⟩
      have R_5 := R_4.keep hb5
      have T_5 := T_4.keep hb5
      have X_5 := X_4.keep hb5
      have hbw5 := bStep hbw4 hb5
      clear R_4 T_4 X_4 hbw4 hb5
      go_wp2_with fail
      refine (specRowsOk_eq hk2 T_5).mono ?_
      rintro e w6 ⟨rfl, hb6⟩
      have R_6 := R_5.keep hb6
      have T_6 := T_5.keep hb6
      have X_6 := X_5.keep hb6
      have hbw6 := bStep hbw5 hb6
      clear R_5 T_5 X_5 hbw5 hb6
      go_wp2_with fail
      refine (specBothB_k HL.out R_6 T_6).mono ?_
      rintro e w7 ⟨os, rfl, S_7, hb7⟩
      have R_7 := R_6.keep hb7
      have T_7 := T_6.keep hb7
      have X_7 := X_6.keep hb7
      have hbw7 := bStep hbw6 hb7
      clear R_6 T_6 X_6 hbw6 hb7
      go_wp2_with fail
      refine (lwRows_eq (selfR _) X_7 S_7).mono ?_
      rintro e w8 ⟨rfl, hb8⟩
      have R_8 := R_7.keep hb8
      have T_8 := T_7.keep hb8
      have X_8 := X_7.keep hb8
      have S_8 := S_7.keep hb8
      have hbw8 := bStep hbw7 hb8
      clear R_7 T_7 X_7 S_7 hbw7 hb8
      go_wp2_with fail
      go_ret
      exact ⟨rfl, hbw8⟩
    · have ha := hda.abs hk
      have hb' := hdb.abs hk2
      have hl1 := hda.1
      have hl2 := hdb.1
      have HI : Hid (∀ X Y : Int, okB X Y = true → itemsL L X Y = bothS (itemsL a X Y) (itemsL b X Y)) := by have := HL.out; subst this; exact fun X Y hX => both_items hk hk2 (by omega) (by omega) hX
      have HO : Hid (bokB L = true) := by have := HL.out; subst this; exact bothB_bok a b
      go_wp2_with fail
      refine (specRowsOk_eq hk R_4).mono ?_
      rintro e w5 ⟨rfl, hb5⟩
      have R_5 := R_4.keep hb5
      have T_5 := T_4.keep hb5
      have X_5 := X_4.keep hb5
      have hbw5 := bStep hbw4 hb5
      clear R_4 T_4 X_4 hbw4 hb5
      go_wp2_with fail
      refine (specRowsOk_eq hk2 T_5).mono ?_
      rintro e w6 ⟨rfl, hb6⟩
      have R_6 := R_5.keep hb6
      have T_6 := T_5.keep hb6
      have X_6 := X_5.keep hb6
      have hbw6 := bStep hbw5 hb6
      clear R_5 T_5 X_5 hbw5 hb6
      go_wp2_with fail
      refine (lwAll_any _).mono ?_
      rintro e w7 ⟨ga, capa, rfl, howna, hga, hb7⟩
      have HA := (show Hid _ from howna)
      clear howna
      have R_7 := R_6.keep hb7
      have T_7 := T_6.keep hb7
      have X_7 := X_6.keep hb7
      have hbw7 := bStep hbw6 hb7
      clear R_6 T_6 X_6 hbw6 hb7
      have HXS : Hid (Rs w7 ox L) := X_7
      have HRS : Hid (Rs w7 oa a) := R_7
      have HTS : Hid (Rs w7 ob b) := T_7
      clear X_7 R_7 T_7
      go_wp2_with fail
      go_loopw [7] (fun i wr => ∃ k : Nat, k ≤ 64 ∧ i = .int .i64 k ∧ Below w7.heap.size w7 wr) (fun i _ => 64 - (intOf i).toNat)
      case atStart => exact ⟨0, by omega, rfl, Below.refl _ _⟩
      obtain ⟨k, hk64, rfl, hb⟩ := hrel
      by_cases hlt : k < 64
      · obtain ⟨c0, c1⟩ := all_cells HA.out hlt
        have d0 := cell_below hb c0
        have d1 := cell_below hb c1
        have HOK : Hid (okB ((k / 8 : Nat) : Int) ((k % 8 : Nat) : Int) = true) := by show _ = _; simp [okB]; omega
        have HX : Hid (∀ W, Below w7.heap.size w7 W → W.cell? ⟨ga, k * 2, none⟩ = some (.int .i64 ((k / 8 : Nat) : Int)) ∧ W.cell? ⟨ga, k * 2 + 1, none⟩ = some (.int .i64 ((k % 8 : Nat) : Int))) :=
          fun W hW => ⟨cell_below hW c0, cell_below hW c1⟩
        have ik : (k : Int) < 64 := by omega
        clear c0 c1
        generalize hX : ((k / 8 : Nat) : Int) = X at *
        generalize hY : ((k % 8 : Nat) : Int) = Y at *
        clear hX hY
        have HR1 : Hid (∀ W, Below w7.heap.size w7 W → Rs W ox L) := fun W hW => HXS.out.keep hW
        have HR2 : Hid (∀ W, Below w7.heap.size w7 W → Rs W oa a) := fun W hW => HRS.out.keep hW
        have HR3 : Hid (∀ W, Below w7.heap.size w7 W → Rs W ob b) := fun W hW => HTS.out.keep hW
        have HIE : Hid (bothS (itemsL a X Y) (itemsL b X Y) = itemsL L X Y) := (HI.out X Y HOK.out).symm
        have hbD := hb.drew
        go_wp2_with fail
        go_region_held3 (fun w' => w'.cell? ⟨ga, k * 2, none⟩ = some (.int .i64 X) ∧ w'.cell? ⟨ga, k * 2 + 1, none⟩ = some (.int .i64 Y))
          (first | exact HX.out _ hbD | exact HX.out _ hbna | exact HX.out _ hbnb | exact HX.out _ hbnc | exact HX.out _ hbnd | exact HX.out _ hbne)
          (first
            | (go_at_call 16; with_reducible refine (implAt_k rfl (HR1.out _ hbD)).mono ?_; rintro e wa ⟨oi, rfl, isa, hba⟩; have hbna : Below w7.heap.size w7 wa := bStep hbD hba)
            | (go_at_call 16; with_reducible refine (implAt_k rfl (HR2.out _ hbna)).mono ?_; rintro e wb ⟨oj, rfl, isb, hbb⟩; have hbnb : Below w7.heap.size w7 wb := bStep hbna hbb; have isa2 := SlK.keep isa hbb)
            | (go_at_call 16; with_reducible refine (implAt_k rfl (HR3.out _ hbnb)).mono ?_; rintro e wc ⟨ok, rfl, isc, hbc⟩; have hbnc : Below w7.heap.size w7 wc := bStep hbnb hbc; have isa3 := SlK.keep isa2 hbc; have isb3 := SlK.keep isb hbc)
            | (go_at_call 17; with_reducible refine (implSetBoth_k HIE.out isb3 isc).mono ?_; rintro e wd ⟨om, rfl, isd, hbd⟩; have hbnd : Below w7.heap.size w7 wd := bStep hbnc hbd; have isa4 := SlK.keep isa3 hbd)
            | (go_at_call 15; with_reducible refine (lwItems_eq (selfI _) isa4 isd).mono ?_; rintro e we ⟨rfl, hbe⟩; have hbne : Below w7.heap.size w7 we := bStep hbnd hbe))
        all_goals
          go_wp2_with fail
          go_roundw
          case rel => exact ⟨k + 1, by omega, by go_num, hbne⟩
          case measure => simp [intOf]; omega
      obtain rfl : k = 64 := by omega
      have X_8 := HXS.out.keep hb
      have hbw8 := bStep hbw7 hb
      go_wp2_with fail
      refine (implBatchOk_eq HO.out X_8).mono ?_
      rintro e w9 ⟨rfl, hb9⟩
      have X_9 := X_8.keep hb9
      have hbw9 := bStep hbw8 hb9
      clear X_8 hbw8 hb9
      go_wp2_with fail
      go_ret
      exact ⟨rfl, hbw9⟩
end FnBatchBoth
namespace RowFnBatchBoth
theorem own : ownKnob Try.prog.godebug = none := by kernel_rfl
set_option maxRecDepth 100000 in
theorem lifted (os : Os) (started : os.Started) (H : Type) (enc : TypeId × Value → H) :
    ReturnsInHanded {} Try.checked os 3 .any (Rows.fnBatchBothSpec.pre6 enc Try.prog Try.f3 Rows.fnBatchBothRow.domain false) (Rows.fnBatchBothSpec.post enc Try.prog Try.f3 false true false false) := by
  refine returnsInHanded_of_change (C := Try.checked) own started (by kernel_rfl) Try.func3
    (ChangeSpec.witness6 (enc := enc) (C := Try.checked) false ⟨#[], #[.slice none 0 0], []⟩ 8 (by kernel_rfl) (by kernel_rfl) (by kernel_rfl) (by kernel_rfl)) ?_
  intro W base args ds gs before hval0 hW hcnd _
  have hval : ∀ (j : Nat) t v, Try.f3.params[j]? = some t → args[j]? = some v → Value.okWide Try.prog W .any base t v := hval0
  have hW' := hW
  obtain ⟨p, q, hA0, hV, rfl, hfz, hnd⟩ := hW
  have hA : DataW.TrodAll enc Try.prog W 0 (fun _ => true) true Try.f3.params.toList args.toList ds p := hA0
  rw [Try.params3] at hA hval
  obtain ⟨v0, vs0, d0, ds0, p0, q0, hargs, rfl, rfl, h0, r0⟩ := trodAll_cons hA
  obtain ⟨rfl, rfl, rfl⟩ := trodAll_nil r0
  obtain rfl : args = #[v0] := by cases args; simp_all
  obtain ⟨rfl, rfl⟩ := trodVars_none hV
  obtain ⟨a0, len0, cap0, rfl⟩ := okWide_slice Try.underlying22 (hval 0 22 v0 rfl rfl)
  have k0 := h0
  have lt0 : ∀ x ∈ p0, x.block < W.heap.size := by obtain ⟨m, hm⟩ := k0; exact DataW.trod_lt m _ _ _ hm
  have w0 : Src W (.slice a0 len0 cap0) len0 := by
    obtain ⟨fuel, hf⟩ := h0
    rcases open_ints Try.underlying22 Try.underlying5 (by kernel_rfl) hf with ⟨hcs, _⟩ | ⟨x, l, c, zs, hcs, _, hl, hm, hz, _, hcell, hwz⟩
    · simp [Value.cells] at hcs
      obtain ⟨rfl, rfl, rfl⟩ := hcs
      exact Src.nil _
    · simp [Value.cells] at hcs
      obtain ⟨rfl, rfl, rfl⟩ := hcs
      exact Src.of_row hl hm (by simpa using hz) hcell hwz
  clear hA0 hval0
  refine (FnBatchBoth.walk a0 len0 cap0 W w0).mono fun e W' ⟨he, bel⟩ => ?_
  subst he
  exact ⟨_, rfl, _, _, _, [], _, [], hW', trodAll_mk1 (shut_bool Try.underlying4 _), (trodAll_cons_mk (Below.trod pfLaid (by kernel_rfl) (of_decide_eq_true (by kernel_rfl)) k0 bel lt0) trodAll_mk0), rfl, bel.frame _, fun h => by cases h⟩
set_option maxHeartbeats 4000000 in
theorem closed : joinedFacts Try.prog 3 Try.f3 Rows.fnBatchBothSpec Rows.fnBatchBothRow = true := by
  unfold joinedFacts
  exact (andB (andB (andB (andB (andB (andB (andB (andB (andB (andB (andB (andB (andB (andB (andB (andB (andB (andB (andB (andB (andB (andB (andB (andB (andB (andB (andB (andB (andB (andB (andB (by as_aux_lemma => kernel_rfl) pfLaid) pfRowed) (by as_aux_lemma => kernel_rfl)) (by as_aux_lemma => kernel_rfl)) (by as_aux_lemma => kernel_rfl)) (by as_aux_lemma => kernel_rfl)) (by as_aux_lemma => kernel_rfl)) (by as_aux_lemma => kernel_rfl)) (by as_aux_lemma => kernel_rfl)) (by as_aux_lemma => kernel_rfl)) (by as_aux_lemma => kernel_rfl)) (by as_aux_lemma => kernel_rfl)) (by as_aux_lemma => kernel_rfl)) (by as_aux_lemma => kernel_rfl)) (by as_aux_lemma => kernel_rfl)) (by as_aux_lemma => kernel_rfl)) (by as_aux_lemma => kernel_rfl)) (by as_aux_lemma => kernel_rfl)) (by as_aux_lemma => kernel_rfl)) (by as_aux_lemma => kernel_rfl)) (by as_aux_lemma => kernel_rfl)) (by as_aux_lemma => kernel_rfl)) (by as_aux_lemma => kernel_rfl)) pfHeard) pfEnter) (pfLiftB rfl)) (pfMakeB rfl)) (by as_aux_lemma => kernel_rfl)) (by as_aux_lemma => kernel_rfl)) (by as_aux_lemma => kernel_rfl)) (by as_aux_lemma => kernel_rfl))
theorem over : Rows.fnBatchBothRow.holds Try.pinned (OpenSpec.ofChange Rows.fnBatchBothSpec) :=
  OpenClaim.holds_of_wide 3 Try.f3 rfl rfl rfl rfl rfl rfl rfl ⟨rfl, rfl, rfl, rfl, rfl⟩ rfl rfl rfl rfl rfl (by kernel_rfl) Try.func3 closed
    (of_decide_eq_true (by kernel_rfl)) (by unfold Func.isWrapper; first | (rw [if_pos (by decide +kernel)]; kernel_rfl) | (rw [if_neg (by decide +kernel)]; exact ⟨rfl, rfl⟩))
    (fun os started H enc _ => lifted os started H enc)
end RowFnBatchBoth
theorem fnBatchBoth_holds : Rows.FnBatchBothSaid := RowFnBatchBoth.over
end Go.Proofs.Ytjkojbafifbdgaa
