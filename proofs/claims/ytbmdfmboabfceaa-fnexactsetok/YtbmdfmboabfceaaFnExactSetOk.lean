/- For every list of items, whatever their numbers, SetOk of the program answers as SetOk of the model (a list of more than 1048576 items is passed by, as the law says), the list is left as it was, and the argument reads afterwards as before. No condition. -/
import Derived.Test.YtbmdfmboabfceaaPf
import Derived.Test.YtbmdfmboabfceaaGb2
import Derived.Test.YtbmdfmboabfceaaGt2
namespace Go.Proofs.Ytbmdfmboabfceaa
open Go.ChangeShapes Go.WideShapes Go.ChangeAt Go.RowKit Go.Joins

namespace FnExactSetOk
set_option maxHeartbeats 4000000 in
theorem walk (a : Option Addr) (len cap : Nat) (w : World) (h0 : IsArg w a len cap) :
    Calls Try.prog 26 #[.slice a len cap] w fun e w' => e = .returned (.bool true) ∧ Below w.heap.size w w' := by
  have hl := h0.1
  have hm := h0.2.1
  by_cases hbig : (1048576 : Int) < (len : Int)
  · go_enter Try.func26, Try.ntmps26
    go_wp2_with fail
    refine (szItemS_any _ _ _ _ _ hl hm (by omega) (by omega)).mono ?_
    rintro e w1 ⟨rfl, rfl⟩
    rw [if_pos hbig]
    go_wp2_with fail
    go_ret
    exact ⟨rfl, Below.refl _ _⟩
  obtain ⟨l, rfl, ht⟩ := h0.is (by omega)
  have hlen : l.length ≤ maxLen := by unfold maxLen at *; omega
  have hln2 : l.length ≤ 2097152 := by omega
  go_enter Try.func26, Try.ntmps26
  go_wp2_with fail
  refine (szItemS_any _ _ _ _ _ hl hm (by omega) (by omega)).mono ?_
  rintro e w1 ⟨rfl, rfl⟩
  rw [if_neg (by omega)]
  have hpos : ¬ ((1048576 : Int) - (l.length : Int) < 0) := by omega
  go_wp2_with fail
  refine (toItemS_any _ l _ ht).mono ?_
  rintro e w2 ⟨g, c, rfl, hg, hbk, hcs, hfill, hb2⟩
  have t2 := SlK.of_blk hbk hfill itC_len (Nat.le_refl _) hlen hln2
  clear hbk hcs hfill
  cases hf : sokB l
  all_goals
    go_wp2_with fail
    refine (specSetOk_eq hf t2).mono ?_
    rintro e w3 ⟨rfl, hb3⟩
    have hbw3 := bStep hb2 hb3
    have ht3 := ht.keep hbw3
    go_wp2_with fail
    refine (toItemS_any _ l _ ht3).mono ?_
    rintro e w4 ⟨g4, c4, rfl, hg4, hbk4, hcs4, hfill4, hb4⟩
    have t4 := SlK.of_blk hbk4 hfill4 itC_len (Nat.le_refl _) hlen hln2
    clear hbk4 hcs4 hfill4
    have hbw4 := bStep hbw3 hb4
    go_wp2_with fail
    refine (implSetOk_eq hf t4).mono ?_
    rintro e w5 ⟨rfl, hb5⟩
    have hbw5 := bStep hbw4 hb5
    have ht5 := ht.keep hbw5
    have t5 := t4.keep hb5
    go_wp2_with fail
    refine (toItemS_any _ l _ ht5).mono ?_
    rintro e w6 ⟨g6, c6, rfl, hg6, hbk6, hcs6, hfill6, hb6⟩
    have t6 := SlK.of_blk hbk6 hfill6 itC_len (Nat.le_refl _) hlen hln2
    clear hbk6 hcs6 hfill6
    have hbw6 := bStep hbw5 hb6
    have t7 := t5.keep hb6
    go_wp2_with fail
    refine (eqItemS_same _ _ l _ t7 t6).mono ?_
    rintro e w7 ⟨rfl, hb7⟩
    have hbw7 := bStep hbw6 hb7
    go_wp2_with fail
    go_ret
    exact ⟨rfl, hbw7⟩
end FnExactSetOk
namespace RowFnExactSetOk
theorem own : ownKnob Try.prog.godebug = none := by kernel_rfl
set_option maxRecDepth 100000 in
theorem lifted (os : Os) (started : os.Started) (H : Type) (enc : TypeId × Value → H) :
    ReturnsInHanded {} Try.checked os 26 .any (Rows.fnExactSetOkSpec.pre6 enc Try.prog Try.f26 Rows.fnExactSetOkRow.domain false) (Rows.fnExactSetOkSpec.post enc Try.prog Try.f26 false true false false) := by
  refine returnsInHanded_of_change (C := Try.checked) own started (by kernel_rfl) Try.func26
    (ChangeSpec.witness6 (enc := enc) (C := Try.checked) false ⟨#[], #[.slice none 0 0], []⟩ 8 (by kernel_rfl) (by kernel_rfl) (by kernel_rfl) (by kernel_rfl)) ?_
  intro W base args ds gs before hval0 hW hcnd _
  have hval : ∀ (j : Nat) t v, Try.f26.params[j]? = some t → args[j]? = some v → Value.okWide Try.prog W .any base t v := hval0
  have hW' := hW
  obtain ⟨p, q, hA0, hV, rfl, hfz, hnd⟩ := hW
  have hA : DataW.TrodAll enc Try.prog W 0 (fun _ => true) true Try.f26.params.toList args.toList ds p := hA0
  rw [Try.params26] at hA hval
  obtain ⟨v0, vs0, d0, ds0, p0, q0, hargs, rfl, rfl, h0, r0⟩ := trodAll_cons hA
  obtain ⟨rfl, rfl, rfl⟩ := trodAll_nil r0
  obtain rfl : args = #[v0] := by cases args; simp_all
  obtain ⟨rfl, rfl⟩ := trodVars_none hV
  obtain ⟨a0, len0, cap0, rfl⟩ := okWide_slice Try.underlying69 (hval 0 69 v0 rfl rfl)
  have k0 := h0
  have lt0 : ∀ x ∈ p0, x.block < W.heap.size := by obtain ⟨m, hm⟩ := k0; exact DataW.trod_lt m _ _ _ hm
  have w0 : IsArg W a0 len0 cap0 := IsArg.of_trod h0
  clear hA0 hval0
  refine (FnExactSetOk.walk a0 len0 cap0 W w0).mono fun e W' ⟨he, bel⟩ => ?_
  subst he
  exact ⟨_, rfl, _, _, _, [], _, [], hW', trodAll_mk1 (shut_bool Try.underlying4 _), (trodAll_cons_mk (Below.trod pfLaid (by kernel_rfl) (of_decide_eq_true (by kernel_rfl)) k0 bel lt0) trodAll_mk0), rfl, bel.frame _, fun h => by cases h⟩
set_option maxHeartbeats 4000000 in
theorem closed : joinedFacts Try.prog 26 Try.f26 Rows.fnExactSetOkSpec Rows.fnExactSetOkRow = true := by
  unfold joinedFacts
  exact (andB (andB (andB (andB (andB (andB (andB (andB (andB (andB (andB (andB (andB (andB (andB (andB (andB (andB (andB (andB (andB (andB (andB (andB (andB (andB (andB (andB (andB (andB (andB (by as_aux_lemma => kernel_rfl) pfLaid) pfRowed) (by as_aux_lemma => kernel_rfl)) (by as_aux_lemma => kernel_rfl)) (by as_aux_lemma => kernel_rfl)) (by as_aux_lemma => kernel_rfl)) (by as_aux_lemma => kernel_rfl)) (by as_aux_lemma => kernel_rfl)) (by as_aux_lemma => kernel_rfl)) (by as_aux_lemma => kernel_rfl)) (by as_aux_lemma => kernel_rfl)) (by as_aux_lemma => kernel_rfl)) (by as_aux_lemma => kernel_rfl)) (by as_aux_lemma => kernel_rfl)) (by as_aux_lemma => kernel_rfl)) (by as_aux_lemma => kernel_rfl)) (by as_aux_lemma => kernel_rfl)) (by as_aux_lemma => kernel_rfl)) (by as_aux_lemma => kernel_rfl)) (by as_aux_lemma => kernel_rfl)) (by as_aux_lemma => kernel_rfl)) (by as_aux_lemma => kernel_rfl)) (by as_aux_lemma => kernel_rfl)) pfHeard) pfEnter) (pfLiftB rfl)) (pfMakeB rfl)) (by as_aux_lemma => kernel_rfl)) (by as_aux_lemma => kernel_rfl)) (by as_aux_lemma => kernel_rfl)) (by as_aux_lemma => kernel_rfl))
theorem over : Rows.fnExactSetOkRow.holds Try.pinned (OpenSpec.ofChange Rows.fnExactSetOkSpec) :=
  OpenClaim.holds_of_wide 26 Try.f26 rfl rfl rfl rfl rfl rfl rfl ⟨rfl, rfl, rfl, rfl, rfl⟩ rfl rfl rfl rfl rfl (by kernel_rfl) Try.func26 closed
    (of_decide_eq_true (by kernel_rfl)) (by unfold Func.isWrapper; first | (rw [if_pos (by decide +kernel)]; kernel_rfl) | (rw [if_neg (by decide +kernel)]; exact ⟨rfl, rfl⟩))
    (fun os started H enc _ => lifted os started H enc)
end RowFnExactSetOk
theorem fnExactSetOk_holds : Rows.FnExactSetOkSaid := RowFnExactSetOk.over
end Go.Proofs.Ytbmdfmboabfceaa
