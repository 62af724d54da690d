/- For all bytes: of the two fronts that they draw it does not matter which is first, with itself a front is as it is, and FrontBoth of the program answers as the model's; the argument reads afterwards as before. No condition. -/
import Derived.Test.YtpmkhempkblokaaFr24
namespace Go.Proofs.Ytpmkhempkblokaa
open Go.ChangeShapes Go.WideShapes Go.ChangeAt Go.RowKit Go.Joins

namespace FnFrontBothTurn
set_option maxHeartbeats 8000000 in
theorem walk (x0 : Option Addr) (len0 cap0 : Nat) (w : World) (h0 : Src w (.slice x0 len0 cap0) len0) :
    Calls Try.prog 10 #[.slice x0 len0 cap0] w fun e w' => e = .returned (.bool true) ∧ Below w.heap.size w w' := by
  by_cases g0 : (1048576 : Int) < (len0 : Int)
  · go_enter Try.func10, Try.ntmps10
    go_wp2_with fail
    go_ret
    exact ⟨rfl, Below.refl _ _⟩
  go_enter Try.func10, Try.ntmps10
  go_wp2_with fail
  refine (drawBoth_any _ _ _ _ h0).mono ?_
  rintro e w1 ⟨o, o', f, g, rfl, hl, hl', hown, hown', hb1⟩
  have tf1 := hown.ts (by omega)
  have tg1 := hown'.ts (by omega)
  clear h0 hown hown'
  obtain ⟨L, hL⟩ : ∃ L, bothL f g = L := ⟨_, rfl⟩
  have HL : Hid (bothL f g = L) := hL
  have HT : Hid (bothL g f = L) := by show _ = _; rw [both_turn]; exact hL
  clear hL
  go_wp2_with fail
  refine (implBoth_k HL.out tf1 tg1).mono ?_
  rintro e w2 ⟨p, rfl, th2, hb2⟩
  have tf2 := tf1.keep hb2
  have tg2 := tg1.keep hb2
  have hbw2 := bStep hb1 hb2
  clear tf1 tg1 hb1 hb2
  go_wp2_with fail
  refine (specBoth_k HL.out tf2 tg2).mono ?_
  rintro e w3 ⟨q, rfl, tq3, hb3⟩
  have tf3 := tf2.keep hb3
  have tg3 := tg2.keep hb3
  have th3 := th2.keep hb3
  have hbw3 := bStep hbw2 hb3
  clear tf2 tg2 th2 hbw2 hb3
  go_wp2_with fail
  refine (lwTimes_eq (self_true _) th3 tq3).mono ?_
  rintro e w4 ⟨rfl, hb4⟩
  have tf4 := tf3.keep hb4
  have tg4 := tg3.keep hb4
  have th4 := th3.keep hb4
  have hbw4 := bStep hbw3 hb4
  clear tf3 tg3 th3 tq3 hbw3 hb4
  go_wp2_with fail
  refine (implBoth_k HT.out tg4 tf4).mono ?_
  rintro e w5 ⟨q2, rfl, tq5, hb5⟩
  have tf5 := tf4.keep hb5
  have th5 := th4.keep hb5
  have hbw5 := bStep hbw4 hb5
  clear tf4 tg4 th4 hbw4 hb5
  go_wp2_with fail
  refine (lwTimes_eq (self_true _) tq5 th5).mono ?_
  rintro e w6 ⟨rfl, hb6⟩
  have tf6 := tf5.keep hb6
  have hbw6 := bStep hbw5 hb6
  clear tf5 tq5 th5 hbw5 hb6
  cases hf : fokB f
  · go_wp2_with fail
    refine (specFrontOk_eq hf tf6).mono ?_
    rintro e w7 ⟨rfl, hb7⟩
    have hbw7 := bStep hbw6 hb7
    go_wp2_with fail
    go_ret
    exact ⟨rfl, hbw7⟩
  · have HSF : Hid (bothL f f = f) := both_self hf
    go_wp2_with fail
    refine (specFrontOk_eq hf tf6).mono ?_
    rintro e w7 ⟨rfl, hb7⟩
    have hbw7 := bStep hbw6 hb7
    have tf7 := tf6.keep hb7
    clear tf6 hbw6 hb7
    go_wp2_with fail
    refine (implBoth_k HSF.out tf7 tf7).mono ?_
    rintro e w8 ⟨q3, rfl, tq8, hb8⟩
    have tf8 := tf7.keep hb8
    have hbw8 := bStep hbw7 hb8
    clear tf7 hbw7 hb8
    go_wp2_with fail
    refine (lwTimes_eq (self_true _) tq8 tf8).mono ?_
    rintro e w9 ⟨rfl, hb9⟩
    have hbw9 := bStep hbw8 hb9
    go_wp2_with fail
    go_ret
    exact ⟨rfl, hbw9⟩
end FnFrontBothTurn
namespace RowFnFrontBothTurn
theorem own : ownKnob Try.prog.godebug = none := by kernel_rfl
theorem laidOut : laidOutB Try.prog = true := by kernel_rfl
set_option maxRecDepth 100000 in
theorem lifted (os : Os) (started : os.Started) (H : Type) (enc : TypeId × Value → H) :
    ReturnsInHanded {} Try.checked os 10 .any (Rows.fnFrontBothTurnSpec.pre6 enc Try.prog Try.f10 Rows.fnFrontBothTurnRow.domain false) (Rows.fnFrontBothTurnSpec.post enc Try.prog Try.f10 false true false false) := by
  refine returnsInHanded_of_change (C := Try.checked) own started (by kernel_rfl) Try.func10
    (ChangeSpec.witness6 (enc := enc) (C := Try.checked) false ⟨#[], #[.slice none 0 0], []⟩ 8 (by kernel_rfl) (by kernel_rfl) (by kernel_rfl) (by kernel_rfl)) ?_
  intro W base args ds gs before hval0 hW hcnd _
  have hval : ∀ (j : Nat) t v, Try.f10.params[j]? = some t → args[j]? = some v → Value.okWide Try.prog W .any base t v := hval0
  have hW' := hW
  obtain ⟨p, q, hA0, hV, rfl, hfz, hnd⟩ := hW
  have hA : DataW.TrodAll enc Try.prog W 0 (fun _ => true) true Try.f10.params.toList args.toList ds p := hA0
  rw [Try.params10] at hA hval
  obtain ⟨v0, vs0, d0, ds0, p0, q0, hargs, rfl, rfl, h0, r0⟩ := trodAll_cons hA
  obtain ⟨rfl, rfl, rfl⟩ := trodAll_nil r0
  obtain rfl : args = #[v0] := by cases args; simp_all
  obtain ⟨rfl, rfl⟩ := trodVars_none hV
  obtain ⟨a0, len0, cap0, rfl⟩ := okWide_slice Try.underlying22 (hval 0 22 v0 rfl rfl)
  have k0 := h0
  have lt0 : ∀ x ∈ p0, x.block < W.heap.size := by obtain ⟨m, hm⟩ := k0; exact DataW.trod_lt m _ _ _ hm
  have w0 : Src W (.slice a0 len0 cap0) len0 := by
    obtain ⟨fuel, hf⟩ := h0
    rcases open_ints Try.underlying22 Try.underlying5 (by kernel_rfl) hf with ⟨hcs, _⟩ | ⟨x, l, c, zs, hcs, _, hl, hm, hz, _, hcell, hwz⟩
    · simp [Value.cells] at hcs
      obtain ⟨rfl, rfl, rfl⟩ := hcs
      exact Src.nil _
    · simp [Value.cells] at hcs
      obtain ⟨rfl, rfl, rfl⟩ := hcs
      exact Src.of_row hl hm (by simpa using hz) hcell hwz
  clear hA0 hval0
  refine (FnFrontBothTurn.walk a0 len0 cap0 W w0).mono fun e W' ⟨he, bel⟩ => ?_
  subst he
  exact ⟨_, rfl, _, _, _, [], _, [], hW', trodAll_mk1 (shut_bool Try.underlying4 _), (trodAll_cons_mk (Below.trod laidOut (by kernel_rfl) (of_decide_eq_true (by kernel_rfl)) k0 bel lt0) trodAll_mk0), rfl, bel.frame _, fun h => by cases h⟩
theorem over : Rows.fnFrontBothTurnRow.holds Try.pinned (OpenSpec.ofChange Rows.fnFrontBothTurnSpec) :=
  OpenClaim.holds_of_wide 10 Try.f10 rfl rfl rfl rfl rfl rfl rfl ⟨rfl, rfl, rfl, rfl, rfl⟩ rfl rfl rfl rfl rfl (by kernel_rfl) Try.func10 (by kernel_rfl)
    (of_decide_eq_true (by kernel_rfl)) (by unfold Func.isWrapper; first | (rw [if_pos (by decide +kernel)]; kernel_rfl) | (rw [if_neg (by decide +kernel)]; exact ⟨rfl, rfl⟩))
    (fun os started H enc _ => lifted os started H enc)
end RowFnFrontBothTurn
theorem fnFrontBothTurn_holds : Rows.FnFrontBothTurnSaid := RowFnFrontBothTurn.over
end Go.Proofs.Ytpmkhempkblokaa
