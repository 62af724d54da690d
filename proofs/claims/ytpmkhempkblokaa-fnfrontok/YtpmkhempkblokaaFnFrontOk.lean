/- For all bytes: the times that they draw are a front just if they are their own front, and FrontOk of the program answers as the model's; the argument reads afterwards as before. No condition. -/
import Derived.Test.YtpmkhempkblokaaFr20
import Derived.Test.YtpmkhempkblokaaFr21
import Derived.Test.YtpmkhempkblokaaFr22
namespace Go.Proofs.Ytpmkhempkblokaa
open Go.ChangeShapes Go.WideShapes Go.ChangeAt Go.RowKit Go.Joins

namespace FnFrontOk
set_option maxHeartbeats 8000000 in
theorem walk (x0 : Option Addr) (len0 cap0 : Nat) (w : World) (h0 : Src w (.slice x0 len0 cap0) len0) :
    Calls Try.prog 4 #[.slice x0 len0 cap0] w fun e w' => e = .returned (.bool true) ∧ Below w.heap.size w w' := by
  by_cases g0 : (1048576 : Int) < (len0 : Int)
  · go_enter Try.func4, Try.ntmps4
    go_wp2_with fail
    go_ret
    exact ⟨rfl, Below.refl _ _⟩
  go_enter Try.func4, Try.ntmps4
  go_wp2_with fail
  refine (drawOk_any _ _ _ _ h0).mono ?_
  rintro e w1 ⟨o, f, rfl, hl, hown, hb1⟩
  have ts1 := hown.ts (by omega)
  clear h0 hown
  go_wp2_with fail
  have hfo := implFrontOk_any _ f _ ts1
  refine hfo.mono ?_
  rintro e w2 ⟨rfl, hb2⟩
  have ts2 := ts1.keep hb2
  have hbw2 := bStep hb1 hb2
  clear ts1 hb1 hb2
  have HD := (show Hid _ from front_self_iff f)
  have hl8 := front_len8 f
  cases hr : fokB f
  · have hd : Hid (decide (frontL f = f) = false) := by show _ = false; rw [HD.out, hr]
    clear HD
    go_wp2_with fail
    refine (specFrontOk_eq hr ts2).mono ?_
    rintro e w3 ⟨rfl, hb3⟩
    have ts3 := ts2.keep hb3
    have hbw3 := bStep hbw2 hb3
    clear ts2 hbw2 hb3
    go_wp2_with fail
    refine (implFrontOf_any _ f _ ts3).mono ?_
    rintro e w4 ⟨q, rfl, hown, hb4⟩
    have tq := hown.ts (by omega)
    have ts4 := ts3.keep hb4
    have hbw4 := bStep hbw3 hb4
    clear hown ts3 hbw3 hb4
    go_wp2_with fail
    refine (lwTimes_eq hd.out tq ts4).mono ?_
    rintro e w5 ⟨rfl, hb5⟩
    have hbw5 := bStep hbw4 hb5
    clear hbw4 hb5 tq ts4
    go_wp2_with fail
    go_ret
    exact ⟨rfl, hbw5⟩
  · have hd : Hid (decide (frontL f = f) = true) := by show _ = true; rw [HD.out, hr]
    clear HD
    go_wp2_with fail
    refine (specFrontOk_eq hr ts2).mono ?_
    rintro e w3 ⟨rfl, hb3⟩
    have ts3 := ts2.keep hb3
    have hbw3 := bStep hbw2 hb3
    clear ts2 hbw2 hb3
    go_wp2_with fail
    refine (implFrontOf_any _ f _ ts3).mono ?_
    rintro e w4 ⟨q, rfl, hown, hb4⟩
    have tq := hown.ts (by omega)
    have ts4 := ts3.keep hb4
    have hbw4 := bStep hbw3 hb4
    clear hown ts3 hbw3 hb4
    go_wp2_with fail
    refine (lwTimes_eq hd.out tq ts4).mono ?_
    rintro e w5 ⟨rfl, hb5⟩
    have hbw5 := bStep hbw4 hb5
    clear hbw4 hb5 tq ts4
    go_wp2_with fail
    go_ret
    exact ⟨rfl, hbw5⟩
end FnFrontOk
namespace RowFnFrontOk
theorem own : ownKnob Try.prog.godebug = none := by kernel_rfl
theorem laidOut : laidOutB Try.prog = true := by kernel_rfl
set_option maxRecDepth 100000 in
theorem lifted (os : Os) (started : os.Started) (H : Type) (enc : TypeId × Value → H) :
    ReturnsInHanded {} Try.checked os 4 .any (Rows.fnFrontOkSpec.pre6 enc Try.prog Try.f4 Rows.fnFrontOkRow.domain false) (Rows.fnFrontOkSpec.post enc Try.prog Try.f4 false true false false) := by
  refine returnsInHanded_of_change (C := Try.checked) own started (by kernel_rfl) Try.func4
    (ChangeSpec.witness6 (enc := enc) (C := Try.checked) false ⟨#[], #[.slice none 0 0], []⟩ 8 (by kernel_rfl) (by kernel_rfl) (by kernel_rfl) (by kernel_rfl)) ?_
  intro W base args ds gs before hval0 hW hcnd _
  have hval : ∀ (j : Nat) t v, Try.f4.params[j]? = some t → args[j]? = some v → Value.okWide Try.prog W .any base t v := hval0
  have hW' := hW
  obtain ⟨p, q, hA0, hV, rfl, hfz, hnd⟩ := hW
  have hA : DataW.TrodAll enc Try.prog W 0 (fun _ => true) true Try.f4.params.toList args.toList ds p := hA0
  rw [Try.params4] at hA hval
  obtain ⟨v0, vs0, d0, ds0, p0, q0, hargs, rfl, rfl, h0, r0⟩ := trodAll_cons hA
  obtain ⟨rfl, rfl, rfl⟩ := trodAll_nil r0
  obtain rfl : args = #[v0] := by cases args; simp_all
  obtain ⟨rfl, rfl⟩ := trodVars_none hV
  obtain ⟨a0, len0, cap0, rfl⟩ := okWide_slice Try.underlying22 (hval 0 22 v0 rfl rfl)
  have k0 := h0
  have lt0 : ∀ x ∈ p0, x.block < W.heap.size := by obtain ⟨m, hm⟩ := k0; exact DataW.trod_lt m _ _ _ hm
  have w0 : Src W (.slice a0 len0 cap0) len0 := by
    obtain ⟨fuel, hf⟩ := h0
    rcases open_ints Try.underlying22 Try.underlying5 (by kernel_rfl) hf with ⟨hcs, _⟩ | ⟨x, l, c, zs, hcs, _, hl, hm, hz, _, hcell, hwz⟩
    · simp [Value.cells] at hcs
      obtain ⟨rfl, rfl, rfl⟩ := hcs
      exact Src.nil _
    · simp [Value.cells] at hcs
      obtain ⟨rfl, rfl, rfl⟩ := hcs
      exact Src.of_row hl hm (by simpa using hz) hcell hwz
  clear hA0 hval0
  refine (FnFrontOk.walk a0 len0 cap0 W w0).mono fun e W' ⟨he, bel⟩ => ?_
  subst he
  exact ⟨_, rfl, _, _, _, [], _, [], hW', trodAll_mk1 (shut_bool Try.underlying4 _), (trodAll_cons_mk (Below.trod laidOut (by kernel_rfl) (of_decide_eq_true (by kernel_rfl)) k0 bel lt0) trodAll_mk0), rfl, bel.frame _, fun h => by cases h⟩
theorem over : Rows.fnFrontOkRow.holds Try.pinned (OpenSpec.ofChange Rows.fnFrontOkSpec) :=
  OpenClaim.holds_of_wide 4 Try.f4 rfl rfl rfl rfl rfl rfl rfl ⟨rfl, rfl, rfl, rfl, rfl⟩ rfl rfl rfl rfl rfl (by kernel_rfl) Try.func4 (by kernel_rfl)
    (of_decide_eq_true (by kernel_rfl)) (by unfold Func.isWrapper; first | (rw [if_pos (by decide +kernel)]; kernel_rfl) | (rw [if_neg (by decide +kernel)]; exact ⟨rfl, rfl⟩))
    (fun os started H enc _ => lifted os started H enc)
end RowFnFrontOk
theorem fnFrontOk_holds : Rows.FnFrontOkSaid := RowFnFrontOk.over
end Go.Proofs.Ytpmkhempkblokaa
