/- For all bytes: FlowSum of the program makes of the rows that they draw, by the kind that they draw, what the model makes of them, and changes at times of FlowTimes alone; the argument reads afterwards as before. No condition. -/
import Derived.Test.YtpjmkejojenflaaGreatPf
import Derived.Test.YtpjmkejojenflaaGreatK9
namespace Go.Proofs.YtpjmkejojenflaaGreat
open Go.ChangeShapes Go.WideShapes Go.ChangeAt Go.RowKit Go.Joins

namespace FnFlowSumTimes
set_option maxRecDepth 100000 in
set_option maxHeartbeats 8000000 in
theorem walk (x0 : Option Addr) (len0 cap0 : Nat) (w : World) (h0 : Src w (.slice x0 len0 cap0) len0) :
    Calls Tryz.prog 4 #[.slice x0 len0 cap0] w fun e w' => e = .returned (.bool true) ∧ Below w.heap.size w w' := by
  by_cases g0 : (1048576 : Int) < (len0 : Int)
  · go_enter Tryz.func4, Tryz.ntmps4
    go_wp2_with fail
    go_ret
    exact ⟨rfl, Below.refl _ _⟩
  go_enter Tryz.func4, Tryz.ntmps4
  go_wp2_with fail
  refine (drawFlowSum_any _ _ _ _ h0).mono ?_
  rintro e w1 ⟨oa, a, kind, rfl, hd, R_1, hb1⟩
  have hbw1 := hb1
  clear h0 hb1
  obtain ⟨L, hL_L⟩ : ∃ zz, fsumL a kind = zz := ⟨_, rfl⟩
  have HL : Hid (fsumL a kind = L) := hL_L
  clear hL_L
  go_wp2_with fail
  refine (implFlowSum_k HL.out R_1).mono ?_
  rintro e w2 ⟨ox, rfl, X_2, hb2⟩
  have R_2 := R_1.keep hb2
  have hbw2 := bStep hbw1 hb2
  clear R_1 hbw1 hb2
  go_wp2_with fail
  refine (specFlowSum_k HL.out R_2).mono ?_
  rintro e w3 ⟨os, rfl, S_3, hb3⟩
  have R_3 := R_2.keep hb3
  have X_3 := X_2.keep hb3
  have hbw3 := bStep hbw2 hb3
  clear R_2 X_2 hbw2 hb3
  go_wp2_with fail
  refine (lwRows_eq (selfR _) X_3 S_3).mono ?_
  rintro e w4 ⟨rfl, hb4⟩
  have R_4 := R_3.keep hb4
  have X_4 := X_3.keep hb4
  have hbw4 := bStep hbw3 hb4
  clear R_3 X_3 S_3 hbw3 hb4
  have HT : Hid (∀ r ∈ L, r.1.2 ∈ ftimesL a r.1.1.1) := by have e1 := HL.out; subst e1; exact fun r hr => fsum_times hr
  have HR0 := (show Hid (Rs w4 oa a) from R_4)
  obtain ⟨ax, capx, rfl, hcx, hmx, hnx, hcells⟩ := Rs.open X_4
  unfold maxLen at hmx
  have HC := (show Hid _ from hcells)
  clear hcells X_4 R_4
  go_wp2_with fail
  go_loopw [6] (fun i wr => ∃ k : Nat, k ≤ L.length ∧ i = .int .i64 k ∧ Below w4.heap.size w4 wr) (fun i _ => L.length - (intOf i).toNat)
  case atStart => exact ⟨0, by omega, rfl, Below.refl _ _⟩
  obtain ⟨k, hkl, rfl, hb⟩ := hrel
  by_cases hlt : k < L.length
  · obtain ⟨g, off, K, V, A, B, D, rfl, hg, hr, c0, c1, c2, c3, c4⟩ := HC.out k hlt
    have ik : ((k : Int) < (L.length : Int)) := by omega
    have HIN : Hid ((A, B) ∈ ftimesL a K) := HT.out _ (List.mem_of_getElem? hr)
    have HX : Hid (∀ W, Below w4.heap.size w4 W → W.cell? ⟨g, off + k * 5, none⟩ = some (.int .i64 K) ∧ W.cell? ⟨g, off + k * 5 + 2, none⟩ = some (.int .i64 A) ∧ W.cell? ⟨g, off + k * 5 + 3, none⟩ = some (.int .i64 B)) := fun W hW => ⟨cell_below hW c0, cell_below hW c2, cell_below hW c3⟩
    have HR1 : Hid (∀ W, Below w4.heap.size w4 W → Rs W oa a) := fun W hW => HR0.out.keep hW
    obtain ⟨d0, d2, d3⟩ := HX.out wr hb
    have hbD := hb.drew
    clear c0 c1 c2 c3 c4 hr
    go_wp2_with fail
    go_region_held3 (fun w' => w'.cell? ⟨g, off + k * 5, none⟩ = some (.int .i64 K) ∧ w'.cell? ⟨g, off + k * 5 + 2, none⟩ = some (.int .i64 A) ∧ w'.cell? ⟨g, off + k * 5 + 3, none⟩ = some (.int .i64 B))
      (first | exact HX.out _ hbD | exact HX.out _ hbna | exact HX.out _ hbnb)
      (first
        | (go_at_call 21; with_reducible refine (implFlowTimes_k rfl (HR1.out _ hbD)).mono ?_; rintro e wa ⟨oi, rfl, tsa, hba⟩; have hbna : Below w4.heap.size w4 wa := bStep hbD hba)
        | (go_at_call 20; with_reducible refine (lwIn_yes HIN.out tsa).mono ?_; rintro e wb ⟨rfl, hbb⟩; have hbnb : Below w4.heap.size w4 wb := bStep hbna hbb))
    all_goals
      go_wp2_with fail
      go_roundw
      case rel => exact ⟨k + 1, by omega, by go_num, hbnb⟩
      case measure => simp [intOf]; omega
  obtain rfl : k = L.length := by omega
  have hbw5 := bStep hbw4 hb
  go_wp2_with fail
  go_ret
  exact ⟨rfl, hbw5⟩
end FnFlowSumTimes
namespace RowFnFlowSumTimes
theorem own : ownKnob Tryz.prog.godebug = none := by kernel_rfl
set_option maxRecDepth 100000 in
theorem lifted (os : Os) (started : os.Started) (H : Type) (enc : TypeId × Value → H) :
    ReturnsInHanded {} Tryz.checked os 4 .any (Rows.fnFlowSumTimesSpec.pre6 enc Tryz.prog Tryz.f4 Rows.fnFlowSumTimesRow.domain false) (Rows.fnFlowSumTimesSpec.post enc Tryz.prog Tryz.f4 false true false false) := by
  refine returnsInHanded_of_change (C := Tryz.checked) own started (by kernel_rfl) Tryz.func4
    (ChangeSpec.witness6 (enc := enc) (C := Tryz.checked) false ⟨#[], #[.slice none 0 0], []⟩ 8 (by kernel_rfl) (by kernel_rfl) (by kernel_rfl) (by kernel_rfl)) ?_
  intro W base args ds gs before hval0 hW hcnd _
  have hval : ∀ (j : Nat) t v, Tryz.f4.params[j]? = some t → args[j]? = some v → Value.okWide Tryz.prog W .any base t v := hval0
  have hW' := hW
  obtain ⟨p, q, hA0, hV, rfl, hfz, hnd⟩ := hW
  have hA : DataW.TrodAll enc Tryz.prog W 0 (fun _ => true) true Tryz.f4.params.toList args.toList ds p := hA0
  rw [Tryz.params4] at hA hval
  obtain ⟨v0, vs0, d0, ds0, p0, q0, hargs, rfl, rfl, h0, r0⟩ := trodAll_cons hA
  obtain ⟨rfl, rfl, rfl⟩ := trodAll_nil r0
  obtain rfl : args = #[v0] := by cases args; simp_all
  obtain ⟨rfl, rfl⟩ := trodVars_none hV
  obtain ⟨a0, len0, cap0, rfl⟩ := okWide_slice Tryz.underlying22 (hval 0 22 v0 rfl rfl)
  have k0 := h0
  have lt0 : ∀ x ∈ p0, x.block < W.heap.size := by obtain ⟨m, hm⟩ := k0; exact DataW.trod_lt m _ _ _ hm
  have w0 : Src W (.slice a0 len0 cap0) len0 := by
    obtain ⟨fuel, hf⟩ := h0
    rcases open_ints Tryz.underlying22 Tryz.underlying5 (by kernel_rfl) hf with ⟨hcs, _⟩ | ⟨x, l, c, zs, hcs, _, hl, hm, hz, _, hcell, hwz⟩
    · simp [Value.cells] at hcs
      obtain ⟨rfl, rfl, rfl⟩ := hcs
      exact Src.nil _
    · simp [Value.cells] at hcs
      obtain ⟨rfl, rfl, rfl⟩ := hcs
      exact Src.of_row hl hm (by simpa using hz) hcell hwz
  clear hA0 hval0
  refine (FnFlowSumTimes.walk a0 len0 cap0 W w0).mono fun e W' ⟨he, bel⟩ => ?_
  subst he
  exact ⟨_, rfl, _, _, _, [], _, [], hW', trodAll_mk1 (shut_bool Tryz.underlying4 _), (trodAll_cons_mk (Below.trod pfLaid (by kernel_rfl) (of_decide_eq_true (by kernel_rfl)) k0 bel lt0) trodAll_mk0), rfl, bel.frame _, fun h => by cases h⟩
set_option maxHeartbeats 4000000 in
theorem closed : joinedFacts Tryz.prog 4 Tryz.f4 Rows.fnFlowSumTimesSpec Rows.fnFlowSumTimesRow = true := by
  unfold joinedFacts
  exact (andB (andB (andB (andB (andB (andB (andB (andB (andB (andB (andB (andB (andB (andB (andB (andB (andB (andB (andB (andB (andB (andB (andB (andB (andB (andB (andB (andB (andB (andB (andB (by as_aux_lemma => kernel_rfl) pfLaid) pfRowed) (by as_aux_lemma => kernel_rfl)) (by as_aux_lemma => kernel_rfl)) (by as_aux_lemma => kernel_rfl)) (by as_aux_lemma => kernel_rfl)) (by as_aux_lemma => kernel_rfl)) (by as_aux_lemma => kernel_rfl)) (by as_aux_lemma => kernel_rfl)) (by as_aux_lemma => kernel_rfl)) (by as_aux_lemma => kernel_rfl)) (by as_aux_lemma => kernel_rfl)) (by as_aux_lemma => kernel_rfl)) (by as_aux_lemma => kernel_rfl)) (by as_aux_lemma => kernel_rfl)) (by as_aux_lemma => kernel_rfl)) (by as_aux_lemma => kernel_rfl)) (by as_aux_lemma => kernel_rfl)) (by as_aux_lemma => kernel_rfl)) (by as_aux_lemma => kernel_rfl)) (by as_aux_lemma => kernel_rfl)) (by as_aux_lemma => kernel_rfl)) (by as_aux_lemma => kernel_rfl)) pfHeard) pfEnter) (pfLiftB rfl)) (pfMakeB rfl)) (by as_aux_lemma => kernel_rfl)) (by as_aux_lemma => kernel_rfl)) (by as_aux_lemma => kernel_rfl)) (by as_aux_lemma => kernel_rfl))
theorem over : Rows.fnFlowSumTimesRow.holds Tryz.pinned (OpenSpec.ofChange Rows.fnFlowSumTimesSpec) :=
  OpenClaim.holds_of_wide 4 Tryz.f4 rfl rfl rfl rfl rfl rfl rfl ⟨rfl, rfl, rfl, rfl, rfl⟩ rfl rfl rfl rfl rfl (by kernel_rfl) Tryz.func4 closed
    (of_decide_eq_true (by kernel_rfl)) (by unfold Func.isWrapper; first | (rw [if_pos (by decide +kernel)]; kernel_rfl) | (rw [if_neg (by decide +kernel)]; exact ⟨rfl, rfl⟩))
    (fun os started H enc _ => lifted os started H enc)
end RowFnFlowSumTimes
theorem fnFlowSumTimes_holds : Rows.FnFlowSumTimesSaid := RowFnFlowSumTimes.over
end Go.Proofs.YtpjmkejojenflaaGreat
