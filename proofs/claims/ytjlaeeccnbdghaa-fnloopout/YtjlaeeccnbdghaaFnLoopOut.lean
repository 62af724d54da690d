/- For all bytes: LoopOut of the program answers of the changes and the rounds that they draw as the model's; what leaves is what is come to in the last round; the argument reads afterwards as before. No condition. -/
import Derived.Test.YtjlaeeccnbdghaaPf
import Derived.Test.YtjlaeeccnbdghaaLg3
import Derived.Test.YtjlaeeccnbdghaaGd3
namespace Go.Proofs.Ytjlaeeccnbdghaa
open Go.ChangeShapes Go.WideShapes Go.ChangeAt Go.RowKit Go.Joins

namespace FnLoopOut
set_option maxRecDepth 100000 in
set_option maxHeartbeats 8000000 in
theorem walk (x0 : Option Addr) (len0 cap0 : Nat) (w : World) (h0 : Src w (.slice x0 len0 cap0) len0) :
    Calls Try.prog 6 #[.slice x0 len0 cap0] w fun e w' => e = .returned (.bool true) ∧ Below w.heap.size w w' := by
  by_cases g0 : (1048576 : Int) < (len0 : Int)
  · go_enter Try.func6, Try.ntmps6
    go_wp2_with fail
    go_ret
    exact ⟨rfl, Below.refl _ _⟩
  go_enter Try.func6, Try.ntmps6
  go_wp2_with fail
  refine (drawLoopOut_any _ _ _ _ h0).mono ?_
  rintro e w1 ⟨o1, l, n, rfl, hd, hn0, hn7, A_1, hb1⟩
  have hbw1 := hb1
  clear h0 hb1
  obtain ⟨X, hL_X⟩ : ∃ zz, loutL l n = zz := ⟨_, rfl⟩
  have HX : Hid (loutL l n = X) := hL_X
  clear hL_X
  go_wp2_with fail
  refine (implLoopOut_k HX.out A_1).mono ?_
  rintro e w2 ⟨ox, rfl, X_2, hb2⟩
  have A_2 := A_1.keep hb2
  have hbw2 := bStep hbw1 hb2
  clear A_1 hbw1 hb2
  go_wp2_with fail
  refine (specLoopOut_k HX.out A_2).mono ?_
  rintro e w3 ⟨os, rfl, S_3, hb3⟩
  have A_3 := A_2.keep hb3
  have X_3 := X_2.keep hb3
  have hbw3 := bStep hbw2 hb3
  clear A_2 X_2 hbw2 hb3
  go_wp2_with fail
  refine (lwRows_eq (selfR _) X_3 S_3).mono ?_
  rintro e w4 ⟨rfl, hb4⟩
  have A_4 := A_3.keep hb4
  have X_4 := X_3.keep hb4
  have hbw4 := bStep hbw3 hb4
  clear A_3 X_3 S_3 hbw3 hb4
  cases k1 : rokB l
  · go_wp2_with fail
    refine (specRowsOk_eq k1 A_4).mono ?_
    rintro e w5 ⟨rfl, hb5⟩
    have A_5 := A_4.keep hb5
    have X_5 := X_4.keep hb5
    have hbw5 := bStep hbw4 hb5
    clear A_4 X_4 hbw4 hb5
    go_wp2_with fail
    refine (specLoopOut_k HX.out A_5).mono ?_
    rintro e w6 ⟨os, rfl, S_6, hb6⟩
    have A_6 := A_5.keep hb6
    have X_6 := X_5.keep hb6
    have hbw6 := bStep hbw5 hb6
    clear A_5 X_5 hbw5 hb6
    go_wp2_with fail
    refine (lwRows_eq (selfR _) X_6 S_6).mono ?_
    rintro e w7 ⟨rfl, hb7⟩
    have A_7 := A_6.keep hb7
    have X_7 := X_6.keep hb7
    have S_7 := S_6.keep hb7
    have hbw7 := bStep hbw6 hb7
    clear A_6 X_6 S_6 hbw6 hb7
    go_wp2_with fail
    go_ret
    exact ⟨rfl, hbw7⟩
  · by_cases hlo : n < 0
    · go_wp2_with fail
      refine (specRowsOk_eq k1 A_4).mono ?_
      rintro e w5 ⟨rfl, hb5⟩
      have A_5 := A_4.keep hb5
      have X_5 := X_4.keep hb5
      have hbw5 := bStep hbw4 hb5
      clear A_4 X_4 hbw4 hb5
      go_wp2_with fail
      refine (specLoopOut_k HX.out A_5).mono ?_
      rintro e w6 ⟨os, rfl, S_6, hb6⟩
      have A_6 := A_5.keep hb6
      have X_6 := X_5.keep hb6
      have hbw6 := bStep hbw5 hb6
      clear A_5 X_5 hbw5 hb6
      go_wp2_with fail
      refine (lwRows_eq (selfR _) X_6 S_6).mono ?_
      rintro e w7 ⟨rfl, hb7⟩
      have A_7 := A_6.keep hb7
      have X_7 := X_6.keep hb7
      have S_7 := S_6.keep hb7
      have hbw7 := bStep hbw6 hb7
      clear A_6 X_6 S_6 hbw6 hb7
      go_wp2_with fail
      go_ret
      exact ⟨rfl, hbw7⟩
    · have hn8 : ¬ ((7 : Int) < n) := by omega
      have HIT : Hid (∀ t : Nat, t < 8 → itemsL X t 0 = itemsL l t n) := by have h := HX.out; subst h; exact fun t ht => lout_items k1 (hd k1) (by omega) hn7 ht
      go_wp2_with fail
      refine (specRowsOk_eq k1 A_4).mono ?_
      rintro e w5 ⟨rfl, hb5⟩
      have A_5 := A_4.keep hb5
      have X_5 := X_4.keep hb5
      have hbw5 := bStep hbw4 hb5
      clear A_4 X_4 hbw4 hb5
      have HA : Hid (∀ W, Below w5.heap.size w5 W → Rs W o1 l) := fun W hW => SlK.keep A_5 hW
      have HXX : Hid (∀ W, Below w5.heap.size w5 W → Rs W ox X) := fun W hW => SlK.keep X_5 hW
      go_wp2_with fail
      go_loopw [6] (fun i wr => ∃ t : Nat, t ≤ 8 ∧ i = .int .i64 (t : Int) ∧ Below w5.heap.size w5 wr) (fun i _ => 8 - (intOf i).toNat)
      case atStart => exact ⟨0, by omega, rfl, Below.refl _ _⟩
      obtain ⟨t, ht8, rfl, hb⟩ := hrel
      by_cases ht : t < 8
      · have it : (t : Int) ≤ 7 := by omega
        have HE := (show Hid _ from HIT.out t ht)
        go_wp2_with fail
        refine (implAt_any ox X t 0 _ (HXX.out _ hb)).mono ?_
        rintro e w7 ⟨o7, rfl, own7, hb7⟩
        have h7 := bStep hb hb7
        have I7 : Is w7 o7 (itemsL X t 0) := OwnI.is own7 (by have := items_len X t 0; omega)
        clear own7
        go_wp2_with fail
        refine (implAt_any o1 l t n _ (HA.out _ h7)).mono ?_
        rintro e w8 ⟨o8, rfl, own8, hb8⟩
        have h8 := bStep h7 hb8
        have I8 : Is w8 o8 (itemsL l t n) := OwnI.is own8 (by have := items_len l t n; omega)
        have I78 := SlK.keep I7 hb8
        clear own8
        go_wp2_with fail
        refine (lwItems_eq (decide_eq_true HE.out) I78 I8).mono ?_
        rintro e w9 ⟨rfl, hb9⟩
        have h9 := bStep h8 hb9
        go_wp2_with fail
        go_roundw
        case rel => exact ⟨t + 1, by omega, by go_num, h9⟩
        case measure => simp [intOf]; omega
      obtain rfl : t = 8 := by omega
      have it : ¬ (((8 : Nat) : Int) ≤ 7) := by omega
      have A_6 := A_5.keep hb
      have X_6 := X_5.keep hb
      have hbw6 := bStep hbw5 hb
      clear A_5 X_5 hbw5 hb
      go_wp2_with fail
      go_ret
      exact ⟨rfl, hbw6⟩
end FnLoopOut
namespace RowFnLoopOut
theorem own : ownKnob Try.prog.godebug = none := by kernel_rfl
set_option maxRecDepth 100000 in
theorem lifted (os : Os) (started : os.Started) (H : Type) (enc : TypeId × Value → H) :
    ReturnsInHanded {} Try.checked os 6 .any (Rows.fnLoopOutSpec.pre6 enc Try.prog Try.f6 Rows.fnLoopOutRow.domain false) (Rows.fnLoopOutSpec.post enc Try.prog Try.f6 false true false false) := by
  refine returnsInHanded_of_change (C := Try.checked) own started (by kernel_rfl) Try.func6
    (ChangeSpec.witness6 (enc := enc) (C := Try.checked) false ⟨#[], #[.slice none 0 0], []⟩ 8 (by kernel_rfl) (by kernel_rfl) (by kernel_rfl) (by kernel_rfl)) ?_
  intro W base args ds gs before hval0 hW hcnd _
  have hval : ∀ (j : Nat) t v, Try.f6.params[j]? = some t → args[j]? = some v → Value.okWide Try.prog W .any base t v := hval0
  have hW' := hW
  obtain ⟨p, q, hA0, hV, rfl, hfz, hnd⟩ := hW
  have hA : DataW.TrodAll enc Try.prog W 0 (fun _ => true) true Try.f6.params.toList args.toList ds p := hA0
  rw [Try.params6] at hA hval
  obtain ⟨v0, vs0, d0, ds0, p0, q0, hargs, rfl, rfl, h0, r0⟩ := trodAll_cons hA
  obtain ⟨rfl, rfl, rfl⟩ := trodAll_nil r0
  obtain rfl : args = #[v0] := by cases args; simp_all
  obtain ⟨rfl, rfl⟩ := trodVars_none hV
  obtain ⟨a0, len0, cap0, rfl⟩ := okWide_slice Try.underlying22 (hval 0 22 v0 rfl rfl)
  have k0 := h0
  have lt0 : ∀ x ∈ p0, x.block < W.heap.size := by obtain ⟨m, hm⟩ := k0; exact DataW.trod_lt m _ _ _ hm
  have w0 : Src W (.slice a0 len0 cap0) len0 := by
    obtain ⟨fuel, hf⟩ := h0
    rcases open_ints Try.underlying22 Try.underlying5 (by kernel_rfl) hf with ⟨hcs, _⟩ | ⟨x, l, c, zs, hcs, _, hl, hm, hz, _, hcell, hwz⟩
    · simp [Value.cells] at hcs
      obtain ⟨rfl, rfl, rfl⟩ := hcs
      exact Src.nil _
    · simp [Value.cells] at hcs
      obtain ⟨rfl, rfl, rfl⟩ := hcs
      exact Src.of_row hl hm (by simpa using hz) hcell hwz
  clear hA0 hval0
  refine (FnLoopOut.walk a0 len0 cap0 W w0).mono fun e W' ⟨he, bel⟩ => ?_
  subst he
  exact ⟨_, rfl, _, _, _, [], _, [], hW', trodAll_mk1 (shut_bool Try.underlying4 _), (trodAll_cons_mk (Below.trod pfLaid (by kernel_rfl) (of_decide_eq_true (by kernel_rfl)) k0 bel lt0) trodAll_mk0), rfl, bel.frame _, fun h => by cases h⟩
set_option maxHeartbeats 4000000 in
theorem closed : joinedFacts Try.prog 6 Try.f6 Rows.fnLoopOutSpec Rows.fnLoopOutRow = true := by
  unfold joinedFacts
  exact (andB (andB (andB (andB (andB (andB (andB (andB (andB (andB (andB (andB (andB (andB (andB (andB (andB (andB (andB (andB (andB (andB (andB (andB (andB (andB (andB (andB (andB (andB (andB (by as_aux_lemma => kernel_rfl) pfLaid) pfRowed) (by as_aux_lemma => kernel_rfl)) (by as_aux_lemma => kernel_rfl)) (by as_aux_lemma => kernel_rfl)) (by as_aux_lemma => kernel_rfl)) (by as_aux_lemma => kernel_rfl)) (by as_aux_lemma => kernel_rfl)) (by as_aux_lemma => kernel_rfl)) (by as_aux_lemma => kernel_rfl)) (by as_aux_lemma => kernel_rfl)) (by as_aux_lemma => kernel_rfl)) (by as_aux_lemma => kernel_rfl)) (by as_aux_lemma => kernel_rfl)) (by as_aux_lemma => kernel_rfl)) (by as_aux_lemma => kernel_rfl)) (by as_aux_lemma => kernel_rfl)) (by as_aux_lemma => kernel_rfl)) (by as_aux_lemma => kernel_rfl)) (by as_aux_lemma => kernel_rfl)) (by as_aux_lemma => kernel_rfl)) (by as_aux_lemma => kernel_rfl)) (by as_aux_lemma => kernel_rfl)) pfHeard) pfEnter) (pfLiftB rfl)) (pfMakeB rfl)) (by as_aux_lemma => kernel_rfl)) (by as_aux_lemma => kernel_rfl)) (by as_aux_lemma => kernel_rfl)) (by as_aux_lemma => kernel_rfl))
theorem over : Rows.fnLoopOutRow.holds Try.pinned (OpenSpec.ofChange Rows.fnLoopOutSpec) :=
  OpenClaim.holds_of_wide 6 Try.f6 rfl rfl rfl rfl rfl rfl rfl ⟨rfl, rfl, rfl, rfl, rfl⟩ rfl rfl rfl rfl rfl (by kernel_rfl) Try.func6 closed
    (of_decide_eq_true (by kernel_rfl)) (by unfold Func.isWrapper; first | (rw [if_pos (by decide +kernel)]; kernel_rfl) | (rw [if_neg (by decide +kernel)]; exact ⟨rfl, rfl⟩))
    (fun os started H enc _ => lifted os started H enc)
end RowFnLoopOut
theorem fnLoopOut_holds : Rows.FnLoopOutSaid := RowFnLoopOut.over
end Go.Proofs.Ytjlaeeccnbdghaa
