/- For all bytes: of the rows and the front that they draw BatchMove of the program answers as the model's, moved twice they are as moved once, moved to one time all are at it, or behind it, and there are no more; the argument reads afterwards as before. No condition. -/
import Derived.Test.YtebgjpghccnfcaaPf
import Derived.Test.YtebgjpghccnfcaaGd3
namespace Go.Proofs.Ytebgjpghccnfcaa
open Go.ChangeShapes Go.WideShapes Go.ChangeAt Go.RowKit Go.Joins

namespace FnBatchMoveTwice
set_option maxRecDepth 100000 in
set_option maxHeartbeats 8000000 in
theorem walk (x0 : Option Addr) (len0 cap0 : Nat) (w : World) (h0 : Src w (.slice x0 len0 cap0) len0) :
    Calls Try.prog 8 #[.slice x0 len0 cap0] w fun e w' => e = .returned (.bool true) ∧ Below w.heap.size w w' := by
  by_cases g0 : (1048576 : Int) < (len0 : Int)
  · go_enter Try.func8, Try.ntmps8
    go_wp2_with fail
    go_ret
    exact ⟨rfl, Below.refl _ _⟩
  go_enter Try.func8, Try.ntmps8
  go_wp2_with fail
  refine (drawBatchMove_any _ _ _ _ h0).mono ?_
  rintro e w1 ⟨oa, ot, a, f, rfl, hd, hlf, R_1, T_1, hb1⟩
  have hbw1 := hb1
  clear h0 hb1
  obtain ⟨L, hL_L⟩ : ∃ zz, bmoveL a f = zz := ⟨_, rfl⟩
  have HL : Hid (bmoveL a f = L) := hL_L
  clear hL_L
  have HT : Hid (bmoveL L f = L) := by have := HL.out; subst this; exact bmove_twice a f
  have hle : (L.length : Int) ≤ (a.length : Int) := by have := HL.out; subst this; have := bmove_few a f; omega
  have HV : Hid (f.length = 1 → ∀ r ∈ L, (fokB f && anyB f r.1.2.1 r.1.2.2) = true) := by have := HL.out; subst this; exact fun h1 r hr => bmove_cov h1 hr
  have hl11 := hd.1
  go_wp2_with fail
  refine (implMoveB_k HL.out R_1 T_1).mono ?_
  rintro e w2 ⟨ox, rfl, X_2, hb2⟩
  have R_2 := R_1.keep hb2
  have T_2 := T_1.keep hb2
  have hbw2 := bStep hbw1 hb2
  clear R_1 T_1 hbw1 hb2
  go_wp2_with fail
  refine (specMoveB_k HL.out R_2 T_2).mono ?_
  rintro e w3 ⟨os, rfl, S_3, hb3⟩
  have R_3 := R_2.keep hb3
  have T_3 := T_2.keep hb3
  have X_3 := X_2.keep hb3
  have hbw3 := bStep hbw2 hb3
  clear R_2 T_2 X_2 hbw2 hb3
  go_wp2_with fail
  refine (lwRows_eq (selfR _) X_3 S_3).mono ?_
  rintro e w4 ⟨rfl, hb4⟩
  have R_4 := R_3.keep hb4
  have T_4 := T_3.keep hb4
  have X_4 := X_3.keep hb4
  have hbw4 := bStep hbw3 hb4
  clear R_3 T_3 X_3 S_3 hbw3 hb4
  go_wp2_with fail
  refine (implMoveB_k HT.out X_4 T_4).mono ?_
  rintro e w5 ⟨os, rfl, S_5, hb5⟩
  have R_5 := R_4.keep hb5
  have T_5 := T_4.keep hb5
  have X_5 := X_4.keep hb5
  have hbw5 := bStep hbw4 hb5
  clear R_4 T_4 X_4 hbw4 hb5
  go_wp2_with fail
  refine (lwRows_eq (selfR _) S_5 X_5).mono ?_
  rintro e w6 ⟨rfl, hb6⟩
  have R_6 := R_5.keep hb6
  have T_6 := T_5.keep hb6
  have X_6 := X_5.keep hb6
  have hbw6 := bStep hbw5 hb6
  clear R_5 T_5 X_5 S_5 hbw5 hb6
  have HTS0 : Hid (Ts w6 ot f) := T_6
  obtain ⟨ax, capx, rfl, hcx, hmx, hnx, hcells⟩ := Rs.open X_6
  unfold maxLen at hmx
  have HC := (show Hid _ from hcells)
  obtain ⟨aa, capa, rfl, -, -, -, -⟩ := R_6
  obtain ⟨af, capf, rfl, hcf, hmf, hnf, -⟩ := T_6
  unfold maxLen at hmf
  have HTS : Hid (Ts w6 (.slice af f.length capf) f) := HTS0
  clear hcells HTS0 X_6
  go_wp2_with fail
  go_loopw [6] (fun i wr => ∃ k : Nat, k ≤ L.length ∧ i = .int .i64 k ∧ Below w6.heap.size w6 wr) (fun i _ => L.length - (intOf i).toNat)
  case atStart => exact ⟨0, by omega, rfl, Below.refl _ _⟩
  obtain ⟨k, hk, rfl, hb⟩ := hrel
  by_cases hlt : k < L.length
  · by_cases h1 : f.length = 1
    · obtain ⟨g, off, K, V, A, B1, D, rfl, hg, hr, c0, c1, c2, c3, c4⟩ := HC.out k hlt
      have d2 := cell_below hb c2
      have d3 := cell_below hb c3
      have HK : Hid ((fokB f && anyB f A B1) = true) := HV.out h1 _ (List.mem_of_getElem? hr)
      have ik : (k : Int) < (L.length : Int) := by omega
      have e1 : ((f.length : Int) == 1) = true := by simp; omega
      clear c0 c1 c2 c3 c4 hr h1
      go_wp2_with fail
      refine (implCovers_eq HK.out (HTS.out.keep hb)).mono ?_
      rintro e wc ⟨rfl, hbc⟩
      have hbn := bStep hb hbc
      go_wp2_with fail
      go_roundw
      case rel => exact ⟨k + 1, by omega, by go_num, hbn⟩
      case measure => simp [intOf]; omega
    · have e1 : ((f.length : Int) == 1) = false := by simp; omega
      have ik : (k : Int) < (L.length : Int) := by omega
      go_wp2_with fail
      go_ret
      exact ⟨rfl, bStep hbw6 hb⟩
  · obtain rfl : k = L.length := by omega
    go_wp2_with fail
    go_ret
    exact ⟨rfl, bStep hbw6 hb⟩
end FnBatchMoveTwice
namespace RowFnBatchMoveTwice
theorem own : ownKnob Try.prog.godebug = none := by kernel_rfl
set_option maxRecDepth 100000 in
theorem lifted (os : Os) (started : os.Started) (H : Type) (enc : TypeId × Value → H) :
    ReturnsInHanded {} Try.checked os 8 .any (Rows.fnBatchMoveTwiceSpec.pre6 enc Try.prog Try.f8 Rows.fnBatchMoveTwiceRow.domain false) (Rows.fnBatchMoveTwiceSpec.post enc Try.prog Try.f8 false true false false) := by
  refine returnsInHanded_of_change (C := Try.checked) own started (by kernel_rfl) Try.func8
    (ChangeSpec.witness6 (enc := enc) (C := Try.checked) false ⟨#[], #[.slice none 0 0], []⟩ 8 (by kernel_rfl) (by kernel_rfl) (by kernel_rfl) (by kernel_rfl)) ?_
  intro W base args ds gs before hval0 hW hcnd _
  have hval : ∀ (j : Nat) t v, Try.f8.params[j]? = some t → args[j]? = some v → Value.okWide Try.prog W .any base t v := hval0
  have hW' := hW
  obtain ⟨p, q, hA0, hV, rfl, hfz, hnd⟩ := hW
  have hA : DataW.TrodAll enc Try.prog W 0 (fun _ => true) true Try.f8.params.toList args.toList ds p := hA0
  rw [Try.params8] at hA hval
  obtain ⟨v0, vs0, d0, ds0, p0, q0, hargs, rfl, rfl, h0, r0⟩ := trodAll_cons hA
  obtain ⟨rfl, rfl, rfl⟩ := trodAll_nil r0
  obtain rfl : args = #[v0] := by cases args; simp_all
  obtain ⟨rfl, rfl⟩ := trodVars_none hV
  obtain ⟨a0, len0, cap0, rfl⟩ := okWide_slice Try.underlying22 (hval 0 22 v0 rfl rfl)
  have k0 := h0
  have lt0 : ∀ x ∈ p0, x.block < W.heap.size := by obtain ⟨m, hm⟩ := k0; exact DataW.trod_lt m _ _ _ hm
  have w0 : Src W (.slice a0 len0 cap0) len0 := by
    obtain ⟨fuel, hf⟩ := h0
    rcases open_ints Try.underlying22 Try.underlying5 (by kernel_rfl) hf with ⟨hcs, _⟩ | ⟨x, l, c, zs, hcs, _, hl, hm, hz, _, hcell, hwz⟩
    · simp [Value.cells] at hcs
      obtain ⟨rfl, rfl, rfl⟩ := hcs
      exact Src.nil _
    · simp [Value.cells] at hcs
      obtain ⟨rfl, rfl, rfl⟩ := hcs
      exact Src.of_row hl hm (by simpa using hz) hcell hwz
  clear hA0 hval0
  refine (FnBatchMoveTwice.walk a0 len0 cap0 W w0).mono fun e W' ⟨he, bel⟩ => ?_
  subst he
  exact ⟨_, rfl, _, _, _, [], _, [], hW', trodAll_mk1 (shut_bool Try.underlying4 _), (trodAll_cons_mk (Below.trod pfLaid (by kernel_rfl) (of_decide_eq_true (by kernel_rfl)) k0 bel lt0) trodAll_mk0), rfl, bel.frame _, fun h => by cases h⟩
set_option maxHeartbeats 4000000 in
theorem closed : joinedFacts Try.prog 8 Try.f8 Rows.fnBatchMoveTwiceSpec Rows.fnBatchMoveTwiceRow = true := by
  unfold joinedFacts
  exact (andB (andB (andB (andB (andB (andB (andB (andB (andB (andB (andB (andB (andB (andB (andB (andB (andB (andB (andB (andB (andB (andB (andB (andB (andB (andB (andB (andB (andB (andB (andB (by as_aux_lemma => kernel_rfl) pfLaid) pfRowed) (by as_aux_lemma => kernel_rfl)) (by as_aux_lemma => kernel_rfl)) (by as_aux_lemma => kernel_rfl)) (by as_aux_lemma => kernel_rfl)) (by as_aux_lemma => kernel_rfl)) (by as_aux_lemma => kernel_rfl)) (by as_aux_lemma => kernel_rfl)) (by as_aux_lemma => kernel_rfl)) (by as_aux_lemma => kernel_rfl)) (by as_aux_lemma => kernel_rfl)) (by as_aux_lemma => kernel_rfl)) (by as_aux_lemma => kernel_rfl)) (by as_aux_lemma => kernel_rfl)) (by as_aux_lemma => kernel_rfl)) (by as_aux_lemma => kernel_rfl)) (by as_aux_lemma => kernel_rfl)) (by as_aux_lemma => kernel_rfl)) (by as_aux_lemma => kernel_rfl)) (by as_aux_lemma => kernel_rfl)) (by as_aux_lemma => kernel_rfl)) (by as_aux_lemma => kernel_rfl)) pfHeard) pfEnter) (pfLiftB rfl)) (pfMakeB rfl)) (by as_aux_lemma => kernel_rfl)) (by as_aux_lemma => kernel_rfl)) (by as_aux_lemma => kernel_rfl)) (by as_aux_lemma => kernel_rfl))
theorem over : Rows.fnBatchMoveTwiceRow.holds Try.pinned (OpenSpec.ofChange Rows.fnBatchMoveTwiceSpec) :=
  OpenClaim.holds_of_wide 8 Try.f8 rfl rfl rfl rfl rfl rfl rfl ⟨rfl, rfl, rfl, rfl, rfl⟩ rfl rfl rfl rfl rfl (by kernel_rfl) Try.func8 closed
    (of_decide_eq_true (by kernel_rfl)) (by unfold Func.isWrapper; first | (rw [if_pos (by decide +kernel)]; kernel_rfl) | (rw [if_neg (by decide +kernel)]; exact ⟨rfl, rfl⟩))
    (fun os started H enc _ => lifted os started H enc)
end RowFnBatchMoveTwice
theorem fnBatchMoveTwice_holds : Rows.FnBatchMoveTwiceSaid := RowFnBatchMoveTwice.over
end Go.Proofs.Ytebgjpghccnfcaa
