/- For all bytes, twice: SetEach of the program makes of the items and the way that they draw what the model makes of them; what is kept was there, and kept twice is kept once; the arguments read afterwards as before. No condition. -/
import Derived.Test.YtbmdfmboabfceaaPf
import Derived.Test.YtbmdfmboabfceaaGk3
import Derived.Test.YtbmdfmboabfceaaGd6
import Derived.Test.YtbmdfmboabfceaaGd5
namespace Go.Proofs.Ytbmdfmboabfceaa
open Go.ChangeShapes Go.WideShapes Go.ChangeAt Go.RowKit Go.Joins

namespace FnSetKeep
set_option maxRecDepth 100000 in
set_option maxHeartbeats 8000000 in
theorem walk (x0 : Option Addr) (len0 cap0 : Nat) (x1 : Option Addr) (len1 cap1 : Nat) (w : World) (h0 : Src w (.slice x0 len0 cap0) len0) (h1 : Src w (.slice x1 len1 cap1) len1) :
    Calls Try.prog 15 #[.slice x0 len0 cap0, .slice x1 len1 cap1] w fun e w' => e = .returned (.bool true) ∧ Below w.heap.size w w' := by
  by_cases g0 : (1048576 : Int) < (len0 : Int)
  · go_enter Try.func15, Try.ntmps15
    go_wp2_with fail
    go_ret
    exact ⟨rfl, Below.refl _ _⟩
  by_cases g1 : (1048576 : Int) < (len1 : Int)
  · go_enter Try.func15, Try.ntmps15
    go_wp2_with fail
    go_ret
    exact ⟨rfl, Below.refl _ _⟩
  go_enter Try.func15, Try.ntmps15
  go_wp2_with fail
  refine (drawSetEach_any _ _ _ _ h0).mono ?_
  rintro e w1 ⟨oa, s, how, rfl, hds, R_1, hb1⟩
  have h1_1 := h1.keep hb1
  have hbw1 := hb1
  clear h0 h1 hb1
  obtain ⟨hls, has⟩ := hds
  obtain ⟨L, hL_L⟩ : ∃ zz, eachS s how = zz := ⟨_, rfl⟩
  have HL : Hid (eachS s how = L) := hL_L
  clear hL_L
  go_wp2_with fail
  refine (implSetEach_k HL.out R_1).mono ?_
  rintro e w2 ⟨ox, rfl, X_2, hb2⟩
  have R_2 := R_1.keep hb2
  have hbw2 := bStep hbw1 hb2
  clear h1_1 R_1 hbw1 hb2
  go_wp2_with fail
  refine (specSetEach_k HL.out R_2).mono ?_
  rintro e w3 ⟨oz, rfl, S_3, hb3⟩
  have R_3 := R_2.keep hb3
  have X_3 := X_2.keep hb3
  have hbw3 := bStep hbw2 hb3
  clear R_2 X_2 hbw2 hb3
  go_wp2_with fail
  refine (lwItems_eq (selfI _) X_3 S_3).mono ?_
  rintro e w4 ⟨rfl, hb4⟩
  have R_4 := R_3.keep hb4
  have hbw4 := bStep hbw3 hb4
  clear R_3 X_3 S_3 hbw3 hb4
  cases hk : sokB s
  · go_wp2_with fail
    refine (specSetOk_eq hk R_4).mono ?_
    rintro e w5 ⟨rfl, hb5⟩
    have R_5 := R_4.keep hb5
    have hbw5 := bStep hbw4 hb5
    clear R_4 hbw4 hb5
    go_wp2_with fail
    refine (implSetEach_k HL.out R_5).mono ?_
    rintro e w6 ⟨ox, rfl, X_6, hb6⟩
    have R_6 := R_5.keep hb6
    have hbw6 := bStep hbw5 hb6
    clear R_5 hbw5 hb6
    go_wp2_with fail
    refine (specSetEach_k HL.out R_6).mono ?_
    rintro e w7 ⟨oz, rfl, S_7, hb7⟩
    have R_7 := R_6.keep hb7
    have X_7 := X_6.keep hb7
    have hbw7 := bStep hbw6 hb7
    clear R_6 X_6 hbw6 hb7
    go_wp2_with fail
    refine (lwItems_eq (selfI _) X_7 S_7).mono ?_
    rintro e w8 ⟨rfl, hb8⟩
    have R_8 := R_7.keep hb8
    have X_8 := X_7.keep hb8
    have S_8 := S_7.keep hb8
    have hbw8 := bStep hbw7 hb8
    clear R_7 X_7 S_7 hbw7 hb8
    go_wp2_with fail
    go_ret
    exact ⟨rfl, hbw8⟩
  · have m0 : (0 : Int) ≤ (len1 : Int) % 3 := by omega
    have m1 : (len1 : Int) % 3 < 3 := by omega
    go_wp2_with fail
    refine (specSetOk_eq hk R_4).mono ?_
    rintro e w5 ⟨rfl, hb5⟩
    have R_5 := R_4.keep hb5
    have hbw5 := bStep hbw4 hb5
    clear R_4 hbw4 hb5
    go_wp2_with fail
    generalize hH : (5 + (len1 : Int) % 3) = kw at *
    have h5 : 5 ≤ kw := by omega
    have h7 : kw ≤ 7 := by omega
    clear hH m0 m1
    obtain ⟨M, hL_M⟩ : ∃ zz, eachS s kw = zz := ⟨_, rfl⟩
    have HM : Hid (eachS s kw = M) := hL_M
    clear hL_M
    have HT : Hid (eachS M kw = M) := by have := HM.out; subst this; exact keep_twice h5 h7 hk
    have HI : Hid (∀ r ∈ M, r ∈ s) := by have := HM.out; subst this; exact fun r hr => keep_mem h5 h7 hk hr
    have hMl : M.length ≤ 400 := by have := HM.out; subst this; exact each_lenS _ _
    refine (implSetEach_k HM.out R_5).mono ?_
    rintro e w6 ⟨ox, rfl, X_6, hb6⟩
    have R_6 := R_5.keep hb6
    have hbw6 := bStep hbw5 hb6
    clear R_5 hbw5 hb6
    have HRS : Hid (Is w6 oa s) := R_6
    have HXS0 : Hid (Is w6 ox M) := X_6
    obtain ⟨ax, capx, rfl, hcx, hmx, hnx, hcells⟩ := Is.open X_6
    have HXS : Hid (Is w6 (.slice ax M.length capx) M) := HXS0
    unfold maxLen at hmx
    have HC := (show Hid _ from hcells)
    clear hcells HXS0 X_6 R_6
    go_wp2_with fail
    go_loopw [9] (fun i wr => ∃ k : Nat, k ≤ M.length ∧ i = .int .i64 k ∧ Below w6.heap.size w6 wr) (fun i _ => M.length - (intOf i).toNat)
    case atStart => exact ⟨0, by omega, rfl, Below.refl _ _⟩
    obtain ⟨k, hks, rfl, hb⟩ := hrel
    by_cases hlt : k < M.length
    · obtain ⟨g, off, K, V, D, rfl, hg, hr, c0, c1, c2⟩ := HC.out k hlt
      have ik : ((k : Int) < (M.length : Int)) := by omega
      have HIN : Hid (((K, V), D) ∈ s) := HI.out _ (List.mem_of_getElem? hr)
      have d0 := cell_below hb c0
      have d1 := cell_below hb c1
      have d2 := cell_below hb c2
      clear c0 c1 c2 hr
      go_wp2_with fail
      refine (lwHas_in _ s K V D _ (HRS.out.keep hb) HIN.out).mono ?_
      rintro e wa ⟨rfl, hba⟩
      have hbna := bStep hb hba
      go_wp2_with fail
      go_roundw
      case rel => exact ⟨k + 1, by omega, by go_num, hbna⟩
      case measure => simp [intOf]; omega
    obtain rfl : k = M.length := by omega
    have X_7 := HXS.out.keep hb
    have hbw7 := bStep hbw6 hb
    go_wp2_with fail
    refine (implSetEach_k HT.out X_7).mono ?_
    rintro e w8 ⟨oz, rfl, S_8, hb8⟩
    have X_8 := X_7.keep hb8
    have hbw8 := bStep hbw7 hb8
    clear X_7 hbw7 hb8
    go_wp2_with fail
    refine (lwItems_eq (selfI _) S_8 X_8).mono ?_
    rintro e w9 ⟨rfl, hb9⟩
    have X_9 := X_8.keep hb9
    have S_9 := S_8.keep hb9
    have hbw9 := bStep hbw8 hb9
    clear X_8 S_8 hbw8 hb9
    go_wp2_with fail
    go_ret
    exact ⟨rfl, hbw9⟩
end FnSetKeep
namespace RowFnSetKeep
theorem own : ownKnob Try.prog.godebug = none := by kernel_rfl
set_option maxRecDepth 100000 in
theorem lifted (os : Os) (started : os.Started) (H : Type) (enc : TypeId × Value → H) :
    ReturnsInHanded {} Try.checked os 15 .any (Rows.fnSetKeepSpec.pre6 enc Try.prog Try.f15 Rows.fnSetKeepRow.domain false) (Rows.fnSetKeepSpec.post enc Try.prog Try.f15 false true false false) := by
  refine returnsInHanded_of_change (C := Try.checked) own started (by kernel_rfl) Try.func15
    (ChangeSpec.witness6 (enc := enc) (C := Try.checked) false ⟨#[], #[.slice none 0 0, .slice none 0 0], []⟩ 8 (by kernel_rfl) (by kernel_rfl) (by kernel_rfl) (by kernel_rfl)) ?_
  intro W base args ds gs before hval0 hW hcnd _
  have hval : ∀ (j : Nat) t v, Try.f15.params[j]? = some t → args[j]? = some v → Value.okWide Try.prog W .any base t v := hval0
  have hW' := hW
  obtain ⟨p, q, hA0, hV, rfl, hfz, hnd⟩ := hW
  have hA : DataW.TrodAll enc Try.prog W 0 (fun _ => true) true Try.f15.params.toList args.toList ds p := hA0
  rw [Try.params15] at hA hval
  obtain ⟨v0, vs0, d0, ds0, p0, q0, hargs, rfl, rfl, h0, r0⟩ := trodAll_cons hA
  obtain ⟨v1, vs1, d1, ds1, p1, q1, rfl, rfl, rfl, h1, r1⟩ := trodAll_cons r0
  obtain ⟨rfl, rfl, rfl⟩ := trodAll_nil r1
  obtain rfl : args = #[v0, v1] := by cases args; simp_all
  obtain ⟨rfl, rfl⟩ := trodVars_none hV
  obtain ⟨a0, len0, cap0, rfl⟩ := okWide_slice Try.underlying22 (hval 0 22 v0 rfl rfl)
  have k0 := h0
  have lt0 : ∀ x ∈ p0, x.block < W.heap.size := by obtain ⟨m, hm⟩ := k0; exact DataW.trod_lt m _ _ _ hm
  have w0 : Src W (.slice a0 len0 cap0) len0 := by
    obtain ⟨fuel, hf⟩ := h0
    rcases open_ints Try.underlying22 Try.underlying5 (by kernel_rfl) hf with ⟨hcs, _⟩ | ⟨x, l, c, zs, hcs, _, hl, hm, hz, _, hcell, hwz⟩
    · simp [Value.cells] at hcs
      obtain ⟨rfl, rfl, rfl⟩ := hcs
      exact Src.nil _
    · simp [Value.cells] at hcs
      obtain ⟨rfl, rfl, rfl⟩ := hcs
      exact Src.of_row hl hm (by simpa using hz) hcell hwz
  obtain ⟨a1, len1, cap1, rfl⟩ := okWide_slice Try.underlying22 (hval 1 22 v1 rfl rfl)
  have k1 := h1
  have lt1 : ∀ x ∈ p1, x.block < W.heap.size := by obtain ⟨m, hm⟩ := k1; exact DataW.trod_lt m _ _ _ hm
  have w1 : Src W (.slice a1 len1 cap1) len1 := by
    obtain ⟨fuel, hf⟩ := h1
    rcases open_ints Try.underlying22 Try.underlying5 (by kernel_rfl) hf with ⟨hcs, _⟩ | ⟨x, l, c, zs, hcs, _, hl, hm, hz, _, hcell, hwz⟩
    · simp [Value.cells] at hcs
      obtain ⟨rfl, rfl, rfl⟩ := hcs
      exact Src.nil _
    · simp [Value.cells] at hcs
      obtain ⟨rfl, rfl, rfl⟩ := hcs
      exact Src.of_row hl hm (by simpa using hz) hcell hwz
  clear hA0 hval0
  refine (FnSetKeep.walk a0 len0 cap0 a1 len1 cap1 W w0 w1).mono fun e W' ⟨he, bel⟩ => ?_
  subst he
  exact ⟨_, rfl, _, _, _, [], _, [], hW', trodAll_mk1 (shut_bool Try.underlying4 _), (trodAll_cons_mk (Below.trod pfLaid (by kernel_rfl) (of_decide_eq_true (by kernel_rfl)) k0 bel lt0) (trodAll_cons_mk (Below.trod pfLaid (by kernel_rfl) (of_decide_eq_true (by kernel_rfl)) k1 bel lt1) trodAll_mk0)), rfl, bel.frame _, fun h => by cases h⟩
set_option maxHeartbeats 4000000 in
theorem closed : joinedFacts Try.prog 15 Try.f15 Rows.fnSetKeepSpec Rows.fnSetKeepRow = true := by
  unfold joinedFacts
  exact (andB (andB (andB (andB (andB (andB (andB (andB (andB (andB (andB (andB (andB (andB (andB (andB (andB (andB (andB (andB (andB (andB (andB (andB (andB (andB (andB (andB (andB (andB (andB (by as_aux_lemma => kernel_rfl) pfLaid) pfRowed) (by as_aux_lemma => kernel_rfl)) (by as_aux_lemma => kernel_rfl)) (by as_aux_lemma => kernel_rfl)) (by as_aux_lemma => kernel_rfl)) (by as_aux_lemma => kernel_rfl)) (by as_aux_lemma => kernel_rfl)) (by as_aux_lemma => kernel_rfl)) (by as_aux_lemma => kernel_rfl)) (by as_aux_lemma => kernel_rfl)) (by as_aux_lemma => kernel_rfl)) (by as_aux_lemma => kernel_rfl)) (by as_aux_lemma => kernel_rfl)) (by as_aux_lemma => kernel_rfl)) (by as_aux_lemma => kernel_rfl)) (by as_aux_lemma => kernel_rfl)) (by as_aux_lemma => kernel_rfl)) (by as_aux_lemma => kernel_rfl)) (by as_aux_lemma => kernel_rfl)) (by as_aux_lemma => kernel_rfl)) (by as_aux_lemma => kernel_rfl)) (by as_aux_lemma => kernel_rfl)) pfHeard) pfEnter) (pfLiftB rfl)) (pfMakeB rfl)) (by as_aux_lemma => kernel_rfl)) (by as_aux_lemma => kernel_rfl)) (by as_aux_lemma => kernel_rfl)) (by as_aux_lemma => kernel_rfl))
theorem over : Rows.fnSetKeepRow.holds Try.pinned (OpenSpec.ofChange Rows.fnSetKeepSpec) :=
  OpenClaim.holds_of_wide 15 Try.f15 rfl rfl rfl rfl rfl rfl rfl ⟨rfl, rfl, rfl, rfl, rfl⟩ rfl rfl rfl rfl rfl (by kernel_rfl) Try.func15 closed
    (of_decide_eq_true (by kernel_rfl)) (by unfold Func.isWrapper; first | (rw [if_pos (by decide +kernel)]; kernel_rfl) | (rw [if_neg (by decide +kernel)]; exact ⟨rfl, rfl⟩))
    (fun os started H enc _ => lifted os started H enc)
end RowFnSetKeep
theorem fnSetKeep_holds : Rows.FnSetKeepSaid := RowFnSetKeep.over
end Go.Proofs.Ytbmdfmboabfceaa
