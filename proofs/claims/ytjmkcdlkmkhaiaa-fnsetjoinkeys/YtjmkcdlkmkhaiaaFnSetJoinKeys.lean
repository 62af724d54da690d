/- For all bytes: SetJoin of the program makes of the items that they draw what the model makes of them, of keys that both have, and none with nothing; the argument reads afterwards as before. No condition. -/
import Derived.Test.YtjmkcdlkmkhaiaaPf
import Derived.Test.YtjmkcdlkmkhaiaaGj4
namespace Go.Proofs.Ytjmkcdlkmkhaiaa
open Go.ChangeShapes Go.WideShapes Go.ChangeAt Go.RowKit Go.Joins

namespace FnSetJoinKeys
set_option maxRecDepth 100000 in
set_option maxHeartbeats 8000000 in
theorem walk (x0 : Option Addr) (len0 cap0 : Nat) (w : World) (h0 : Src w (.slice x0 len0 cap0) len0) :
    Calls Try.prog 5 #[.slice x0 len0 cap0] w fun e w' => e = .returned (.bool true) ∧ Below w.heap.size w w' := by
  by_cases g0 : (1048576 : Int) < (len0 : Int)
  · go_enter Try.func5, Try.ntmps5
    go_wp2_with fail
    go_ret
    exact ⟨rfl, Below.refl _ _⟩
  go_enter Try.func5, Try.ntmps5
  go_wp2_with fail
  refine (drawSetJoin_any _ _ _ _ h0).mono ?_
  rintro e w1 ⟨oa, ob, s, t, rfl, hds, hdt, R_1, T_1, hb1⟩
  have hbw1 := hb1
  clear h0 hb1
  obtain ⟨hls, has⟩ := hds
  obtain ⟨hlt', hat⟩ := hdt
  obtain ⟨L, hL_L⟩ : ∃ zz, joinS s t = zz := ⟨_, rfl⟩
  have HL : Hid (joinS s t = L) := hL_L
  clear hL_L
  have HK : Hid (∀ r ∈ L, (∃ x ∈ s, x.1.1 = r.1.1) ∧ ∃ y ∈ t, y.1.1 = r.1.1) := by have e1 := HL.out; subst e1; exact fun r hr => join_keys hr
  have HN1 : Hid (joinS s [] = []) := join_nil2 s
  have HN2 : Hid (joinS [] t = []) := join_nil1 t
  go_wp2_with fail
  refine (implSetJoin_k HL.out R_1 T_1 (by omega) (by omega)).mono ?_
  rintro e w2 ⟨ox, rfl, X_2, hb2⟩
  have R_2 := R_1.keep hb2
  have T_2 := T_1.keep hb2
  have hbw2 := bStep hbw1 hb2
  clear R_1 T_1 hbw1 hb2
  go_wp2_with fail
  refine (specSetJoin_k HL.out R_2 T_2 (by omega) (by omega)).mono ?_
  rintro e w3 ⟨oz, rfl, S_3, hb3⟩
  have R_3 := R_2.keep hb3
  have T_3 := T_2.keep hb3
  have X_3 := X_2.keep hb3
  have hbw3 := bStep hbw2 hb3
  clear R_2 T_2 X_2 hbw2 hb3
  go_wp2_with fail
  refine (lwItems_eq (selfI _) X_3 S_3).mono ?_
  rintro e w4 ⟨rfl, hb4⟩
  have R_4 := R_3.keep hb4
  have T_4 := T_3.keep hb4
  have X_4 := X_3.keep hb4
  have hbw4 := bStep hbw3 hb4
  clear R_3 T_3 X_3 S_3 hbw3 hb4
  obtain ⟨ax, capx, rfl, hcx, hmx, hnx, hcells⟩ := Is.open X_4
  unfold maxLen at hmx
  have HC := (show Hid _ from hcells)
  have HR0 := (show Hid (Is w4 oa s) from R_4)
  have HT0 := (show Hid (Is w4 ob t) from T_4)
  clear hcells X_4 R_4 T_4
  go_wp2_with fail
  go_loopw [6] (fun i wr => ∃ a : Nat, a ≤ L.length ∧ i = .int .i64 a ∧ Below w4.heap.size w4 wr) (fun i _ => L.length - (intOf i).toNat)
  case atStart => exact ⟨0, by omega, rfl, Below.refl _ _⟩
  obtain ⟨a, has2, rfl, hb⟩ := hrel
  by_cases hlt : a < L.length
  · obtain ⟨g, off, K, V, D, rfl, hg, hr, c0, -, -⟩ := HC.out a hlt
    have ia : ((a : Int) < (L.length : Int)) := by omega
    have hkk := HK.out _ (List.mem_of_getElem? hr)
    simp only at hkk
    obtain ⟨hk1, hk2⟩ := hkk
    have d0 := cell_below hb c0
    have HK2 := (show Hid (∃ y ∈ t, y.1.1 = K) from hk2)
    clear hr hk2
    go_wp2_with fail
    refine (lwKey_yes hk1 (HR0.out.keep hb)).mono ?_
    rintro e wa ⟨rfl, hba⟩
    have hb1 := bStep hb hba
    have d1 := cell_below hb1 c0
    clear d0 hb hba hk1
    go_wp2_with fail
    refine (lwKey_yes HK2.out (HT0.out.keep hb1)).mono ?_
    rintro e wb ⟨rfl, hbb⟩
    have hb2 := bStep hb1 hbb
    go_wp2_with fail
    go_roundw
    case rel => exact ⟨a + 1, by omega, by go_num, hb2⟩
    case measure => simp [intOf]; omega
  have hbwz := bStep hbw4 hb
  go_wp2_with fail
  refine (implSetJoin_k HN1.out (HR0.out.keep hb) (nilI _) (by omega) (by simp [absum])).mono ?_
  rintro e wa ⟨o1, rfl, N1, hba⟩
  obtain ⟨a1, cap1, hop1, -⟩ := N1
  have hop1' : o1 = .slice a1 0 cap1 := hop1
  subst hop1'
  clear hop1
  have hbwa := bStep hb hba
  go_wp2_with fail
  refine (implSetJoin_k HN2.out (nilI _) (HT0.out.keep hbwa) (by simp [absum]) (by omega)).mono ?_
  rintro e wb ⟨o2, rfl, N2, hbb⟩
  obtain ⟨a2, cap2, hop2, -⟩ := N2
  have hop2' : o2 = .slice a2 0 cap2 := hop2
  subst hop2'
  clear hop2
  go_wp2_with fail
  go_ret
  exact ⟨rfl, bStep (bStep hbwz hba) hbb⟩
end FnSetJoinKeys
namespace RowFnSetJoinKeys
theorem own : ownKnob Try.prog.godebug = none := by kernel_rfl
set_option maxRecDepth 100000 in
theorem lifted (os : Os) (started : os.Started) (H : Type) (enc : TypeId × Value → H) :
    ReturnsInHanded {} Try.checked os 5 .any (Rows.fnSetJoinKeysSpec.pre6 enc Try.prog Try.f5 Rows.fnSetJoinKeysRow.domain false) (Rows.fnSetJoinKeysSpec.post enc Try.prog Try.f5 false true false false) := by
  refine returnsInHanded_of_change (C := Try.checked) own started (by kernel_rfl) Try.func5
    (ChangeSpec.witness6 (enc := enc) (C := Try.checked) false ⟨#[], #[.slice none 0 0], []⟩ 8 (by kernel_rfl) (by kernel_rfl) (by kernel_rfl) (by kernel_rfl)) ?_
  intro W base args ds gs before hval0 hW hcnd _
  have hval : ∀ (j : Nat) t v, Try.f5.params[j]? = some t → args[j]? = some v → Value.okWide Try.prog W .any base t v := hval0
  have hW' := hW
  obtain ⟨p, q, hA0, hV, rfl, hfz, hnd⟩ := hW
  have hA : DataW.TrodAll enc Try.prog W 0 (fun _ => true) true Try.f5.params.toList args.toList ds p := hA0
  rw [Try.params5] at hA hval
  obtain ⟨v0, vs0, d0, ds0, p0, q0, hargs, rfl, rfl, h0, r0⟩ := trodAll_cons hA
  obtain ⟨rfl, rfl, rfl⟩ := trodAll_nil r0
  obtain rfl : args = #[v0] := by cases args; simp_all
  obtain ⟨rfl, rfl⟩ := trodVars_none hV
  obtain ⟨a0, len0, cap0, rfl⟩ := okWide_slice Try.underlying22 (hval 0 22 v0 rfl rfl)
  have k0 := h0
  have lt0 : ∀ x ∈ p0, x.block < W.heap.size := by obtain ⟨m, hm⟩ := k0; exact DataW.trod_lt m _ _ _ hm
  have w0 : Src W (.slice a0 len0 cap0) len0 := by
    obtain ⟨fuel, hf⟩ := h0
    rcases open_ints Try.underlying22 Try.underlying5 (by kernel_rfl) hf with ⟨hcs, _⟩ | ⟨x, l, c, zs, hcs, _, hl, hm, hz, _, hcell, hwz⟩
    · simp [Value.cells] at hcs
      obtain ⟨rfl, rfl, rfl⟩ := hcs
      exact Src.nil _
    · simp [Value.cells] at hcs
      obtain ⟨rfl, rfl, rfl⟩ := hcs
      exact Src.of_row hl hm (by simpa using hz) hcell hwz
  clear hA0 hval0
  refine (FnSetJoinKeys.walk a0 len0 cap0 W w0).mono fun e W' ⟨he, bel⟩ => ?_
  subst he
  exact ⟨_, rfl, _, _, _, [], _, [], hW', trodAll_mk1 (shut_bool Try.underlying4 _), (trodAll_cons_mk (Below.trod pfLaid (by kernel_rfl) (of_decide_eq_true (by kernel_rfl)) k0 bel lt0) trodAll_mk0), rfl, bel.frame _, fun h => by cases h⟩
set_option maxHeartbeats 4000000 in
theorem closed : joinedFacts Try.prog 5 Try.f5 Rows.fnSetJoinKeysSpec Rows.fnSetJoinKeysRow = true := by
  unfold joinedFacts
  exact (andB (andB (andB (andB (andB (andB (andB (andB (andB (andB (andB (andB (andB (andB (andB (andB (andB (andB (andB (andB (andB (andB (andB (andB (andB (andB (andB (andB (andB (andB (andB (by as_aux_lemma => kernel_rfl) pfLaid) pfRowed) (by as_aux_lemma => kernel_rfl)) (by as_aux_lemma => kernel_rfl)) (by as_aux_lemma => kernel_rfl)) (by as_aux_lemma => kernel_rfl)) (by as_aux_lemma => kernel_rfl)) (by as_aux_lemma => kernel_rfl)) (by as_aux_lemma => kernel_rfl)) (by as_aux_lemma => kernel_rfl)) (by as_aux_lemma => kernel_rfl)) (by as_aux_lemma => kernel_rfl)) (by as_aux_lemma => kernel_rfl)) (by as_aux_lemma => kernel_rfl)) (by as_aux_lemma => kernel_rfl)) (by as_aux_lemma => kernel_rfl)) (by as_aux_lemma => kernel_rfl)) (by as_aux_lemma => kernel_rfl)) (by as_aux_lemma => kernel_rfl)) (by as_aux_lemma => kernel_rfl)) (by as_aux_lemma => kernel_rfl)) (by as_aux_lemma => kernel_rfl)) (by as_aux_lemma => kernel_rfl)) pfHeard) pfEnter) (pfLiftB rfl)) (pfMakeB rfl)) (by as_aux_lemma => kernel_rfl)) (by as_aux_lemma => kernel_rfl)) (by as_aux_lemma => kernel_rfl)) (by as_aux_lemma => kernel_rfl))
theorem over : Rows.fnSetJoinKeysRow.holds Try.pinned (OpenSpec.ofChange Rows.fnSetJoinKeysSpec) :=
  OpenClaim.holds_of_wide 5 Try.f5 rfl rfl rfl rfl rfl rfl rfl ⟨rfl, rfl, rfl, rfl, rfl⟩ rfl rfl rfl rfl rfl (by kernel_rfl) Try.func5 closed
    (of_decide_eq_true (by kernel_rfl)) (by unfold Func.isWrapper; first | (rw [if_pos (by decide +kernel)]; kernel_rfl) | (rw [if_neg (by decide +kernel)]; exact ⟨rfl, rfl⟩))
    (fun os started H enc _ => lifted os started H enc)
end RowFnSetJoinKeys
theorem fnSetJoinKeys_holds : Rows.FnSetJoinKeysSaid := RowFnSetJoinKeys.over
end Go.Proofs.Ytjmkcdlkmkhaiaa
