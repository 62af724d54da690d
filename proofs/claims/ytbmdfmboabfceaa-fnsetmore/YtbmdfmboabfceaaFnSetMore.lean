/- For all bytes: SetOnce of the program makes of the items that they draw what the model makes of them; of the items twice it makes the same, and so does SetLeast; the argument reads afterwards as before. No condition. -/
import Derived.Test.YtbmdfmboabfceaaPf
import Derived.Test.YtbmdfmboabfceaaGk2
import Derived.Test.YtbmdfmboabfceaaGk4
namespace Go.Proofs.Ytbmdfmboabfceaa
open Go.ChangeShapes Go.WideShapes Go.ChangeAt Go.RowKit Go.Joins

namespace FnSetMore
set_option maxRecDepth 100000 in
set_option maxHeartbeats 8000000 in
theorem walk (x0 : Option Addr) (len0 cap0 : Nat) (w : World) (h0 : Src w (.slice x0 len0 cap0) len0) :
    Calls Try.prog 25 #[.slice x0 len0 cap0] w fun e w' => e = .returned (.bool true) ∧ Below w.heap.size w w' := by
  by_cases g0 : (1048576 : Int) < (len0 : Int)
  · go_enter Try.func25, Try.ntmps25
    go_wp2_with fail
    go_ret
    exact ⟨rfl, Below.refl _ _⟩
  go_enter Try.func25, Try.ntmps25
  go_wp2_with fail
  refine (drawSetOnce_any _ _ _ _ h0).mono ?_
  rintro e w1 ⟨oa, s, rfl, hds, R_1, hb1⟩
  have hbw1 := hb1
  clear h0 hb1
  obtain ⟨hls, has⟩ := hds
  obtain ⟨L, hL_L⟩ : ∃ zz, onceS s = zz := ⟨_, rfl⟩
  have HL : Hid (onceS s = L) := hL_L
  clear hL_L
  go_wp2_with fail
  refine (implSetOnce_k HL.out R_1).mono ?_
  rintro e w2 ⟨ox, rfl, X_2, hb2⟩
  have R_2 := R_1.keep hb2
  have hbw2 := bStep hbw1 hb2
  clear R_1 hbw1 hb2
  go_wp2_with fail
  refine (specSetOnce_k HL.out R_2).mono ?_
  rintro e w3 ⟨oz, rfl, S_3, hb3⟩
  have R_3 := R_2.keep hb3
  have X_3 := X_2.keep hb3
  have hbw3 := bStep hbw2 hb3
  clear R_2 X_2 hbw2 hb3
  go_wp2_with fail
  refine (lwItems_eq (selfI _) X_3 S_3).mono ?_
  rintro e w4 ⟨rfl, hb4⟩
  have R_4 := R_3.keep hb4
  have X_4 := X_3.keep hb4
  have hbw4 := bStep hbw3 hb4
  clear R_3 X_3 S_3 hbw3 hb4
  cases hk : sokB s
  · go_wp2_with fail
    refine (specSetOk_eq hk R_4).mono ?_
    rintro e w5 ⟨rfl, hb5⟩
    have R_5 := R_4.keep hb5
    have X_5 := X_4.keep hb5
    have hbw5 := bStep hbw4 hb5
    clear R_4 X_4 hbw4 hb5
    go_wp2_with fail
    refine (specSetOnce_k HL.out R_5).mono ?_
    rintro e w6 ⟨oz, rfl, S_6, hb6⟩
    have R_6 := R_5.keep hb6
    have X_6 := X_5.keep hb6
    have hbw6 := bStep hbw5 hb6
    clear R_5 X_5 hbw5 hb6
    go_wp2_with fail
    refine (lwItems_eq (selfI _) X_6 S_6).mono ?_
    rintro e w7 ⟨rfl, hb7⟩
    have R_7 := R_6.keep hb7
    have X_7 := X_6.keep hb7
    have S_7 := S_6.keep hb7
    have hbw7 := bStep hbw6 hb7
    clear R_6 X_6 S_6 hbw6 hb7
    go_wp2_with fail
    go_ret
    exact ⟨rfl, hbw7⟩
  · obtain ⟨M, hL_M⟩ : ∃ zz, bothS s s = zz := ⟨_, rfl⟩
    have HM : Hid (bothS s s = M) := hL_M
    clear hL_M
    obtain ⟨P, hL_P⟩ : ∃ zz, leastS s = zz := ⟨_, rfl⟩
    have HP : Hid (leastS s = P) := hL_P
    clear hL_P
    have HO : Hid (onceS M = L) := by have := HM.out; subst this; have := HL.out; rw [← this]; exact once_more hk hls (by omega)
    have HQ : Hid (leastS M = P) := by have := HM.out; subst this; have := HP.out; rw [← this]; exact least_more hk hls (by omega)
    go_wp2_with fail
    refine (specSetOk_eq hk R_4).mono ?_
    rintro e w5 ⟨rfl, hb5⟩
    have R_5 := R_4.keep hb5
    have X_5 := X_4.keep hb5
    have hbw5 := bStep hbw4 hb5
    clear R_4 X_4 hbw4 hb5
    go_wp2_with fail
    refine (implSetBoth_k HM.out R_5 R_5).mono ?_
    rintro e w6 ⟨om, rfl, M_6, hb6⟩
    have R_6 := R_5.keep hb6
    have X_6 := X_5.keep hb6
    have hbw6 := bStep hbw5 hb6
    clear R_5 X_5 hbw5 hb6
    go_wp2_with fail
    refine (implSetOnce_k HO.out M_6).mono ?_
    rintro e w7 ⟨oy, rfl, Y_7, hb7⟩
    have R_7 := R_6.keep hb7
    have X_7 := X_6.keep hb7
    have M_7 := M_6.keep hb7
    have hbw7 := bStep hbw6 hb7
    clear R_6 X_6 M_6 hbw6 hb7
    go_wp2_with fail
    refine (lwItems_eq (selfI _) Y_7 X_7).mono ?_
    rintro e w8 ⟨rfl, hb8⟩
    have R_8 := R_7.keep hb8
    have M_8 := M_7.keep hb8
    have hbw8 := bStep hbw7 hb8
    clear R_7 X_7 M_7 Y_7 hbw7 hb8
    go_wp2_with fail
    refine (implSetLeast_k HQ.out M_8).mono ?_
    rintro e w9 ⟨op, rfl, P_9, hb9⟩
    have R_9 := R_8.keep hb9
    have hbw9 := bStep hbw8 hb9
    clear R_8 M_8 hbw8 hb9
    go_wp2_with fail
    refine (implSetLeast_k HP.out R_9).mono ?_
    rintro e w10 ⟨oq, rfl, Q_10, hb10⟩
    have P_10 := P_9.keep hb10
    have hbw10 := bStep hbw9 hb10
    clear R_9 P_9 hbw9 hb10
    go_wp2_with fail
    refine (lwItems_eq (selfI _) P_10 Q_10).mono ?_
    rintro e w11 ⟨rfl, hb11⟩
    have P_11 := P_10.keep hb11
    have Q_11 := Q_10.keep hb11
    have hbw11 := bStep hbw10 hb11
    clear P_10 Q_10 hbw10 hb11
    go_wp2_with fail
    go_ret
    exact ⟨rfl, hbw11⟩
end FnSetMore
namespace RowFnSetMore
theorem own : ownKnob Try.prog.godebug = none := by kernel_rfl
set_option maxRecDepth 100000 in
theorem lifted (os : Os) (started : os.Started) (H : Type) (enc : TypeId × Value → H) :
    ReturnsInHanded {} Try.checked os 25 .any (Rows.fnSetMoreSpec.pre6 enc Try.prog Try.f25 Rows.fnSetMoreRow.domain false) (Rows.fnSetMoreSpec.post enc Try.prog Try.f25 false true false false) := by
  refine returnsInHanded_of_change (C := Try.checked) own started (by kernel_rfl) Try.func25
    (ChangeSpec.witness6 (enc := enc) (C := Try.checked) false ⟨#[], #[.slice none 0 0], []⟩ 8 (by kernel_rfl) (by kernel_rfl) (by kernel_rfl) (by kernel_rfl)) ?_
  intro W base args ds gs before hval0 hW hcnd _
  have hval : ∀ (j : Nat) t v, Try.f25.params[j]? = some t → args[j]? = some v → Value.okWide Try.prog W .any base t v := hval0
  have hW' := hW
  obtain ⟨p, q, hA0, hV, rfl, hfz, hnd⟩ := hW
  have hA : DataW.TrodAll enc Try.prog W 0 (fun _ => true) true Try.f25.params.toList args.toList ds p := hA0
  rw [Try.params25] at hA hval
  obtain ⟨v0, vs0, d0, ds0, p0, q0, hargs, rfl, rfl, h0, r0⟩ := trodAll_cons hA
  obtain ⟨rfl, rfl, rfl⟩ := trodAll_nil r0
  obtain rfl : args = #[v0] := by cases args; simp_all
  obtain ⟨rfl, rfl⟩ := trodVars_none hV
  obtain ⟨a0, len0, cap0, rfl⟩ := okWide_slice Try.underlying22 (hval 0 22 v0 rfl rfl)
  have k0 := h0
  have lt0 : ∀ x ∈ p0, x.block < W.heap.size := by obtain ⟨m, hm⟩ := k0; exact DataW.trod_lt m _ _ _ hm
  have w0 : Src W (.slice a0 len0 cap0) len0 := by
    obtain ⟨fuel, hf⟩ := h0
    rcases open_ints Try.underlying22 Try.underlying5 (by kernel_rfl) hf with ⟨hcs, _⟩ | ⟨x, l, c, zs, hcs, _, hl, hm, hz, _, hcell, hwz⟩
    · simp [Value.cells] at hcs
      obtain ⟨rfl, rfl, rfl⟩ := hcs
      exact Src.nil _
    · simp [Value.cells] at hcs
      obtain ⟨rfl, rfl, rfl⟩ := hcs
      exact Src.of_row hl hm (by simpa using hz) hcell hwz
  clear hA0 hval0
  refine (FnSetMore.walk a0 len0 cap0 W w0).mono fun e W' ⟨he, bel⟩ => ?_
  subst he
  exact ⟨_, rfl, _, _, _, [], _, [], hW', trodAll_mk1 (shut_bool Try.underlying4 _), (trodAll_cons_mk (Below.trod pfLaid (by kernel_rfl) (of_decide_eq_true (by kernel_rfl)) k0 bel lt0) trodAll_mk0), rfl, bel.frame _, fun h => by cases h⟩
set_option maxHeartbeats 4000000 in
theorem closed : joinedFacts Try.prog 25 Try.f25 Rows.fnSetMoreSpec Rows.fnSetMoreRow = true := by
  unfold joinedFacts
  exact (andB (andB (andB (andB (andB (andB (andB (andB (andB (andB (andB (andB (andB (andB (andB (andB (andB (andB (andB (andB (andB (andB (andB (andB (andB (andB (andB (andB (andB (andB (andB (by as_aux_lemma => kernel_rfl) pfLaid) pfRowed) (by as_aux_lemma => kernel_rfl)) (by as_aux_lemma => kernel_rfl)) (by as_aux_lemma => kernel_rfl)) (by as_aux_lemma => kernel_rfl)) (by as_aux_lemma => kernel_rfl)) (by as_aux_lemma => kernel_rfl)) (by as_aux_lemma => kernel_rfl)) (by as_aux_lemma => kernel_rfl)) (by as_aux_lemma => kernel_rfl)) (by as_aux_lemma => kernel_rfl)) (by as_aux_lemma => kernel_rfl)) (by as_aux_lemma => kernel_rfl)) (by as_aux_lemma => kernel_rfl)) (by as_aux_lemma => kernel_rfl)) (by as_aux_lemma => kernel_rfl)) (by as_aux_lemma => kernel_rfl)) (by as_aux_lemma => kernel_rfl)) (by as_aux_lemma => kernel_rfl)) (by as_aux_lemma => kernel_rfl)) (by as_aux_lemma => kernel_rfl)) (by as_aux_lemma => kernel_rfl)) pfHeard) pfEnter) (pfLiftB rfl)) (pfMakeB rfl)) (by as_aux_lemma => kernel_rfl)) (by as_aux_lemma => kernel_rfl)) (by as_aux_lemma => kernel_rfl)) (by as_aux_lemma => kernel_rfl))
theorem over : Rows.fnSetMoreRow.holds Try.pinned (OpenSpec.ofChange Rows.fnSetMoreSpec) :=
  OpenClaim.holds_of_wide 25 Try.f25 rfl rfl rfl rfl rfl rfl rfl ⟨rfl, rfl, rfl, rfl, rfl⟩ rfl rfl rfl rfl rfl (by kernel_rfl) Try.func25 closed
    (of_decide_eq_true (by kernel_rfl)) (by unfold Func.isWrapper; first | (rw [if_pos (by decide +kernel)]; kernel_rfl) | (rw [if_neg (by decide +kernel)]; exact ⟨rfl, rfl⟩))
    (fun os started H enc _ => lifted os started H enc)
end RowFnSetMore
theorem fnSetMore_holds : Rows.FnSetMoreSaid := RowFnSetMore.over
end Go.Proofs.Ytbmdfmboabfceaa
