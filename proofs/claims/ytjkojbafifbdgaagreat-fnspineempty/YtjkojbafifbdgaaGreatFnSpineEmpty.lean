/- For all bytes: SpineOk of the program answers of the spine that they draw as the model's; an empty batch may come into one that is ok, and it says the same at all times; the argument reads afterwards as before. No condition. -/
import Derived.Test.YtjkojbafifbdgaaGreatPf
import Derived.Test.YtjkojbafifbdgaaGreatGx4
namespace Go.Proofs.YtjkojbafifbdgaaGreat
open Go.ChangeShapes Go.WideShapes Go.ChangeAt Go.RowKit Go.Joins

namespace FnSpineEmpty
set_option maxRecDepth 100000 in
set_option maxHeartbeats 8000000 in
theorem walk (x0 : Option Addr) (len0 cap0 : Nat) (w : World) (h0 : Src w (.slice x0 len0 cap0) len0) :
    Calls Tryz.prog 5 #[.slice x0 len0 cap0] w fun e w' => e = .returned (.bool true) ∧ Below w.heap.size w w' := by
  by_cases g0 : (1048576 : Int) < (len0 : Int)
  · go_enter Tryz.func5, Tryz.ntmps5
    go_wp2_with fail
    go_ret
    exact ⟨rfl, Below.refl _ _⟩
  go_enter Tryz.func5, Tryz.ntmps5
  go_wp2_with fail
  refine (drawSpineOk_any _ _ _ _ h0).mono ?_
  rintro e w1 ⟨lv, fv, L, F, rfl, hd, S_1, hb1⟩
  have hbw1 := hb1
  clear h0 hb1
  obtain ⟨aS, cS, bS, dS, eS1, eS2⟩ := Spn.open S_1
  subst eS1 eS2
  have hbx2 : Below w1.heap.size w1 (w1.alloc (.cells #[.slice aS (L).length cS, .slice bS (F).length dS] 26)) := bAlloc (Below.refl _ _) _
  have BS_2 : Bk (w1.alloc (.cells #[.slice aS (L).length cS, .slice bS (F).length dS] 26)) w1.heap.size #[.slice aS (L).length cS, .slice bS (F).length dS] 26 := Bk.new _ _ rfl
  have S_2 := S_1.keep hbx2
  have hbw2 := bStep hbw1 hbx2
  clear S_1 hbw1 hbx2
  cases hk : spokB L F
  · obtain ⟨yy0_2, yz0_2, _, _⟩ := BS_2.two
    go_wp2_with fail
    clear yy0_2 yz0_2
    refine (implSpineOk_eq hk S_2).mono ?_
    rintro e w3 ⟨rfl, hb3⟩
    have S_3 := S_2.keep hb3
    have BS_3 := BS_2.keep hb3
    have hbw3 := bStep hbw2 hb3
    clear S_2 BS_2 hbw2 hb3
    obtain ⟨yy0_3, yz0_3, _, _⟩ := BS_3.two
    go_wp2_with fail
    clear yy0_3 yz0_3
    refine (specSpineOk_eq hk S_3).mono ?_
    rintro e w4 ⟨rfl, hb4⟩
    have S_4 := S_3.keep hb4
    have BS_4 := BS_3.keep hb4
    have hbw4 := bStep hbw3 hb4
    clear S_3 BS_3 hbw3 hb4
    obtain ⟨yy0_4, yz0_4, _, _⟩ := BS_4.two
    go_wp2_with fail
    clear yy0_4 yz0_4
    refine (specSpineOk_eq hk S_4).mono ?_
    rintro e w5 ⟨rfl, hb5⟩
    have S_5 := S_4.keep hb5
    have BS_5 := BS_4.keep hb5
    have hbw5 := bStep hbw4 hb5
    clear S_4 BS_4 hbw4 hb5
    obtain ⟨yy0_5, yz0_5, _, _⟩ := BS_5.two
    go_wp2_with fail
    clear yy0_5 yz0_5
    go_ret
    exact ⟨rfl, hbw5⟩
  · have HIN : Hid (inB1 L F [] = true) := in_empty hk (by have := hd.2.2; omega)
    have HAS := (show Hid _ from ask_empty hk (by have := hd.2.2; omega))
    obtain ⟨M, hL_M⟩ : ∃ zz, inLL L F [] = zz := ⟨_, rfl⟩
    have HM : Hid (inLL L F [] = M) := hL_M
    clear hL_M
    obtain ⟨G, hL_G⟩ : ∃ zz, inF L F [] = zz := ⟨_, rfl⟩
    have HG : Hid (inF L F [] = G) := hL_G
    clear hL_G
    have HZ : Hid (AskL L F M G ∧ AskL M G L F) := by have h := HAS.out; rw [HM.out, HG.out] at h; exact h
    obtain ⟨yy0_2, yz0_2, _, _⟩ := BS_2.two
    go_wp2_with fail
    clear yy0_2 yz0_2
    refine (implSpineOk_eq hk S_2).mono ?_
    rintro e w3 ⟨rfl, hb3⟩
    have S_3 := S_2.keep hb3
    have BS_3 := BS_2.keep hb3
    have hbw3 := bStep hbw2 hb3
    clear S_2 BS_2 hbw2 hb3
    obtain ⟨yy0_3, yz0_3, _, _⟩ := BS_3.two
    go_wp2_with fail
    clear yy0_3 yz0_3
    refine (specSpineOk_eq hk S_3).mono ?_
    rintro e w4 ⟨rfl, hb4⟩
    have S_4 := S_3.keep hb4
    have BS_4 := BS_3.keep hb4
    have hbw4 := bStep hbw3 hb4
    clear S_3 BS_3 hbw3 hb4
    obtain ⟨yy0_4, yz0_4, _, _⟩ := BS_4.two
    go_wp2_with fail
    clear yy0_4 yz0_4
    refine (implIn_k HIN.out HM.out HG.out S_4 (nilR _)).mono ?_
    rintro e w5 ⟨lx, fx, rfl, X_5, hb5⟩
    have S_5 := S_4.keep hb5
    have BS_5 := BS_4.keep hb5
    have hbw5 := bStep hbw4 hb5
    clear S_4 BS_4 hbw4 hb5
    obtain ⟨aX, cX, bX, dX, eX1, eX2⟩ := Spn.open X_5
    subst eX1 eX2
    have hbx6 : Below w5.heap.size w5 (w5.alloc (.cells #[.slice aX (M).length cX, .slice bX (G).length dX] 26)) := bAlloc (Below.refl _ _) _
    have BX_6 : Bk (w5.alloc (.cells #[.slice aX (M).length cX, .slice bX (G).length dX] 26)) w5.heap.size #[.slice aX (M).length cX, .slice bX (G).length dX] 26 := Bk.new _ _ rfl
    have S_6 := S_5.keep hbx6
    have BS_6 := BS_5.keep hbx6
    have X_6 := X_5.keep hbx6
    have hbw6 := bStep hbw5 hbx6
    clear S_5 BS_5 X_5 hbw5 hbx6
    obtain ⟨yy0_6, yz0_6, _, _⟩ := BS_6.two
    obtain ⟨yy1_6, yz1_6, _, _⟩ := BX_6.two
    go_wp2_with fail
    clear yy0_6 yz0_6 yy1_6 yz1_6
    refine (lwAsk_yes HZ.out.1 S_6 X_6).mono ?_
    rintro e w7 ⟨rfl, hb7⟩
    have S_7 := S_6.keep hb7
    have BS_7 := BS_6.keep hb7
    have X_7 := X_6.keep hb7
    have BX_7 := BX_6.keep hb7
    have hbw7 := bStep hbw6 hb7
    clear S_6 BS_6 X_6 BX_6 hbw6 hb7
    obtain ⟨yy0_7, yz0_7, _, _⟩ := BS_7.two
    obtain ⟨yy1_7, yz1_7, _, _⟩ := BX_7.two
    go_wp2_with fail
    clear yy0_7 yz0_7 yy1_7 yz1_7
    refine (lwAsk_yes HZ.out.2 X_7 S_7).mono ?_
    rintro e w8 ⟨rfl, hb8⟩
    have S_8 := S_7.keep hb8
    have BS_8 := BS_7.keep hb8
    have X_8 := X_7.keep hb8
    have BX_8 := BX_7.keep hb8
    have hbw8 := bStep hbw7 hb8
    clear S_7 BS_7 X_7 BX_7 hbw7 hb8
    obtain ⟨yy0_8, yz0_8, _, _⟩ := BS_8.two
    obtain ⟨yy1_8, yz1_8, _, _⟩ := BX_8.two
    go_wp2_with fail
    clear yy0_8 yz0_8 yy1_8 yz1_8
    go_ret
    exact ⟨rfl, hbw8⟩
end FnSpineEmpty
namespace RowFnSpineEmpty
theorem own : ownKnob Tryz.prog.godebug = none := by kernel_rfl
set_option maxRecDepth 100000 in
theorem lifted (os : Os) (started : os.Started) (H : Type) (enc : TypeId × Value → H) :
    ReturnsInHanded {} Tryz.checked os 5 .any (Rows.fnSpineEmptySpec.pre6 enc Tryz.prog Tryz.f5 Rows.fnSpineEmptyRow.domain false) (Rows.fnSpineEmptySpec.post enc Tryz.prog Tryz.f5 false true false false) := by
  refine returnsInHanded_of_change (C := Tryz.checked) own started (by kernel_rfl) Tryz.func5
    (ChangeSpec.witness6 (enc := enc) (C := Tryz.checked) false ⟨#[], #[.slice none 0 0], []⟩ 8 (by kernel_rfl) (by kernel_rfl) (by kernel_rfl) (by kernel_rfl)) ?_
  intro W base args ds gs before hval0 hW hcnd _
  have hval : ∀ (j : Nat) t v, Tryz.f5.params[j]? = some t → args[j]? = some v → Value.okWide Tryz.prog W .any base t v := hval0
  have hW' := hW
  obtain ⟨p, q, hA0, hV, rfl, hfz, hnd⟩ := hW
  have hA : DataW.TrodAll enc Tryz.prog W 0 (fun _ => true) true Tryz.f5.params.toList args.toList ds p := hA0
  rw [Tryz.params5] at hA hval
  obtain ⟨v0, vs0, d0, ds0, p0, q0, hargs, rfl, rfl, h0, r0⟩ := trodAll_cons hA
  obtain ⟨rfl, rfl, rfl⟩ := trodAll_nil r0
  obtain rfl : args = #[v0] := by cases args; simp_all
  obtain ⟨rfl, rfl⟩ := trodVars_none hV
  obtain ⟨a0, len0, cap0, rfl⟩ := okWide_slice Tryz.underlying22 (hval 0 22 v0 rfl rfl)
  have k0 := h0
  have lt0 : ∀ x ∈ p0, x.block < W.heap.size := by obtain ⟨m, hm⟩ := k0; exact DataW.trod_lt m _ _ _ hm
  have w0 : Src W (.slice a0 len0 cap0) len0 := by
    obtain ⟨fuel, hf⟩ := h0
    rcases open_ints Tryz.underlying22 Tryz.underlying5 (by kernel_rfl) hf with ⟨hcs, _⟩ | ⟨x, l, c, zs, hcs, _, hl, hm, hz, _, hcell, hwz⟩
    · simp [Value.cells] at hcs
      obtain ⟨rfl, rfl, rfl⟩ := hcs
      exact Src.nil _
    · simp [Value.cells] at hcs
      obtain ⟨rfl, rfl, rfl⟩ := hcs
      exact Src.of_row hl hm (by simpa using hz) hcell hwz
  clear hA0 hval0
  refine (FnSpineEmpty.walk a0 len0 cap0 W w0).mono fun e W' ⟨he, bel⟩ => ?_
  subst he
  exact ⟨_, rfl, _, _, _, [], _, [], hW', trodAll_mk1 (shut_bool Tryz.underlying4 _), (trodAll_cons_mk (Below.trod pfLaid (by kernel_rfl) (of_decide_eq_true (by kernel_rfl)) k0 bel lt0) trodAll_mk0), rfl, bel.frame _, fun h => by cases h⟩
set_option maxHeartbeats 4000000 in
theorem closed : joinedFacts Tryz.prog 5 Tryz.f5 Rows.fnSpineEmptySpec Rows.fnSpineEmptyRow = true := by
  unfold joinedFacts
  exact (andB (andB (andB (andB (andB (andB (andB (andB (andB (andB (andB (andB (andB (andB (andB (andB (andB (andB (andB (andB (andB (andB (andB (andB (andB (andB (andB (andB (andB (andB (andB (by as_aux_lemma => kernel_rfl) pfLaid) pfRowed) (by as_aux_lemma => kernel_rfl)) (by as_aux_lemma => kernel_rfl)) (by as_aux_lemma => kernel_rfl)) (by as_aux_lemma => kernel_rfl)) (by as_aux_lemma => kernel_rfl)) (by as_aux_lemma => kernel_rfl)) (by as_aux_lemma => kernel_rfl)) (by as_aux_lemma => kernel_rfl)) (by as_aux_lemma => kernel_rfl)) (by as_aux_lemma => kernel_rfl)) (by as_aux_lemma => kernel_rfl)) (by as_aux_lemma => kernel_rfl)) (by as_aux_lemma => kernel_rfl)) (by as_aux_lemma => kernel_rfl)) (by as_aux_lemma => kernel_rfl)) (by as_aux_lemma => kernel_rfl)) (by as_aux_lemma => kernel_rfl)) (by as_aux_lemma => kernel_rfl)) (by as_aux_lemma => kernel_rfl)) (by as_aux_lemma => kernel_rfl)) (by as_aux_lemma => kernel_rfl)) pfHeard) pfEnter) (pfLiftB rfl)) (pfMakeB rfl)) (by as_aux_lemma => kernel_rfl)) (by as_aux_lemma => kernel_rfl)) (by as_aux_lemma => kernel_rfl)) (by as_aux_lemma => kernel_rfl))
theorem over : Rows.fnSpineEmptyRow.holds Tryz.pinned (OpenSpec.ofChange Rows.fnSpineEmptySpec) :=
  OpenClaim.holds_of_wide 5 Tryz.f5 rfl rfl rfl rfl rfl rfl rfl ⟨rfl, rfl, rfl, rfl, rfl⟩ rfl rfl rfl rfl rfl (by kernel_rfl) Tryz.func5 closed
    (of_decide_eq_true (by kernel_rfl)) (by unfold Func.isWrapper; first | (rw [if_pos (by decide +kernel)]; kernel_rfl) | (rw [if_neg (by decide +kernel)]; exact ⟨rfl, rfl⟩))
    (fun os started H enc _ => lifted os started H enc)
end RowFnSpineEmpty
theorem fnSpineEmpty_holds : Rows.FnSpineEmptySaid := RowFnSpineEmpty.over
end Go.Proofs.YtjkojbafifbdgaaGreat
