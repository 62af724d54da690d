/- For all bytes: of the two fronts that they draw, a time is covered by FrontBoth's answer just if both cover it, the answer is a front, and FrontBoth of the program answers as the model's; the argument reads afterwards as before. No condition. -/
import Derived.Test.YtpmkhempkblokaaFr24
namespace Go.Proofs.Ytpmkhempkblokaa
open Go.ChangeShapes Go.WideShapes Go.ChangeAt Go.RowKit Go.Joins

namespace FnFrontBoth
theorem cov_both {f g : List (Int × Int)} (hf : fokB f = true) (hg : fokB g = true) (X Y : Int) : (fokB (bothL f g) && anyB (bothL f g) X Y) = ((fokB f && anyB f X Y) && (fokB g && anyB g X Y)) := by
  rw [both_fok, hf, hg, both_any hf hg]; rfl
set_option maxHeartbeats 8000000 in
theorem walk (x0 : Option Addr) (len0 cap0 : Nat) (w : World) (h0 : Src w (.slice x0 len0 cap0) len0) :
    Calls Try.prog 9 #[.slice x0 len0 cap0] w fun e w' => e = .returned (.bool true) ∧ Below w.heap.size w w' := by
  by_cases g0 : (1048576 : Int) < (len0 : Int)
  · go_enter Try.func9, Try.ntmps9
    go_wp2_with fail
    go_ret
    exact ⟨rfl, Below.refl _ _⟩
  go_enter Try.func9, Try.ntmps9
  go_wp2_with fail
  refine (drawBoth_any _ _ _ _ h0).mono ?_
  rintro e w1 ⟨o, o', f, g, rfl, hl, hl', hown, hown', hb1⟩
  have tf1 := hown.ts (by omega)
  have tg1 := hown'.ts (by omega)
  clear h0 hown hown'
  have HCB : Hid (fokB f = true → fokB g = true → ∀ X Y, (fokB (bothL f g) && anyB (bothL f g) X Y) = ((fokB f && anyB f X Y) && (fokB g && anyB g X Y))) := fun h h' => cov_both h h'
  have HFO : Hid (fokB (bothL f g) = true) := both_fok f g
  obtain ⟨L, hL⟩ : ∃ L, bothL f g = L := ⟨_, rfl⟩
  rw [hL] at HCB HFO
  have HL : Hid (bothL f g = L) := hL
  clear hL
  go_wp2_with fail
  refine (implBoth_k HL.out tf1 tg1).mono ?_
  rintro e w2 ⟨p, rfl, th2, hb2⟩
  have tf2 := tf1.keep hb2
  have tg2 := tg1.keep hb2
  have hbw2 := bStep hb1 hb2
  clear tf1 tg1 hb1 hb2
  go_wp2_with fail
  refine (specBoth_k HL.out tf2 tg2).mono ?_
  rintro e w3 ⟨q, rfl, tq3, hb3⟩
  have tf3 := tf2.keep hb3
  have tg3 := tg2.keep hb3
  have th3 := th2.keep hb3
  have hbw3 := bStep hbw2 hb3
  clear tf2 tg2 th2 hbw2 hb3
  go_wp2_with fail
  refine (lwTimes_eq (self_true _) th3 tq3).mono ?_
  rintro e w4 ⟨rfl, hb4⟩
  have tf4 := tf3.keep hb4
  have tg4 := tg3.keep hb4
  have th4 := th3.keep hb4
  have hbw4 := bStep hbw3 hb4
  clear tf3 tg3 th3 tq3 hbw3 hb4
  cases hf : fokB f
  · go_wp2_with fail
    refine (specFrontOk_eq hf tf4).mono ?_
    rintro e w5 ⟨rfl, hb5⟩
    have tf5 := tf4.keep hb5
    have tg5 := tg4.keep hb5
    have th5 := th4.keep hb5
    have hbw5 := bStep hbw4 hb5
    clear tf4 tg4 th4 hbw4 hb5
    go_wp2_with fail
    refine (specBoth_k HL.out tf5 tg5).mono ?_
    rintro e w6 ⟨q, rfl, tq6, hb6⟩
    have th6 := th5.keep hb6
    have hbw6 := bStep hbw5 hb6
    go_wp2_with fail
    refine (lwTimes_eq (self_true _) th6 tq6).mono ?_
    rintro e w7 ⟨rfl, hb7⟩
    have hbw7 := bStep hbw6 hb7
    go_wp2_with fail
    go_ret
    exact ⟨rfl, hbw7⟩
  go_wp2_with fail
  refine (specFrontOk_eq hf tf4).mono ?_
  rintro e w5 ⟨rfl, hb5⟩
  have tf5 := tf4.keep hb5
  have tg5 := tg4.keep hb5
  have th5 := th4.keep hb5
  have hbw5 := bStep hbw4 hb5
  clear tf4 tg4 th4 hbw4 hb5
  cases hg : fokB g
  · go_wp2_with fail
    refine (specFrontOk_eq hg tg5).mono ?_
    rintro e w6 ⟨rfl, hb6⟩
    have tf6 := tf5.keep hb6
    have tg6 := tg5.keep hb6
    have th6 := th5.keep hb6
    have hbw6 := bStep hbw5 hb6
    clear tf5 tg5 th5 hbw5 hb6
    go_wp2_with fail
    refine (specBoth_k HL.out tf6 tg6).mono ?_
    rintro e w7 ⟨q, rfl, tq7, hb7⟩
    have th7 := th6.keep hb7
    have hbw7 := bStep hbw6 hb7
    go_wp2_with fail
    refine (lwTimes_eq (self_true _) th7 tq7).mono ?_
    rintro e w8 ⟨rfl, hb8⟩
    have hbw8 := bStep hbw7 hb8
    go_wp2_with fail
    go_ret
    exact ⟨rfl, hbw8⟩
  have HCV : Hid (∀ X Y, (fokB L && anyB L X Y) = ((fokB f && anyB f X Y) && (fokB g && anyB g X Y))) := HCB.out hf hg
  clear HCB HL
  go_wp2_with fail
  refine (specFrontOk_eq hg tg5).mono ?_
  rintro e w6 ⟨rfl, hb6⟩
  have tf6 := tf5.keep hb6
  have tg6 := tg5.keep hb6
  have th6 := th5.keep hb6
  have hbw6 := bStep hbw5 hb6
  clear tf5 tg5 th5 hbw5 hb6 hf hg
  go_wp2_with fail
  refine (lwAll_any _).mono ?_
  rintro e w7 ⟨ga, ca, rfl, hall, hga, hb7⟩
  have HA := (show Hid _ from hall)
  have tf7 := tf6.keep hb7
  have tg7 := tg6.keep hb7
  have th7 := th6.keep hb7
  have hbw7 := bStep hbw6 hb7
  clear tf6 tg6 th6 hbw6 hb7 hall
  go_wp2_with fail
  go_loopw [7] (fun i wr => ∃ k : Nat, k ≤ 64 ∧ i = .int .i64 k ∧ Below w7.heap.size w7 wr) (fun i _ => 64 - (intOf i).toNat)
  case atStart => exact ⟨0, by omega, rfl, Below.refl _ _⟩
  case round =>
    obtain ⟨k, hk, rfl, hbr⟩ := hrel
    have tf8 := tf7.keep hbr
    have tg8 := tg7.keep hbr
    have th8 := th7.keep hbr
    by_cases hlt : k < 64
    · obtain ⟨X, Y, cX, cY⟩ : ∃ X Y : Int, w7.cell? ⟨ga, k * 2, none⟩ = some (.int .i64 X) ∧ w7.cell? ⟨ga, k * 2 + 1, none⟩ = some (.int .i64 Y) := ⟨_, _, (all_cells HA.out hlt).1, (all_cells HA.out hlt).2⟩
      have dX : ∀ p : Bel wr, p.ww.cell? ⟨ga, k * 2, none⟩ = some (.int .i64 X) := fun p => cell_below p.below (cell_below hbr cX)
      have dY : ∀ p : Bel wr, p.ww.cell? ⟨ga, k * 2 + 1, none⟩ = some (.int .i64 Y) := fun p => cell_below p.below (cell_below hbr cY)
      have hk64 : decide ((k : Int) < 64) = true := by simp; omega
      have hne := bel_some wr
      have HXY := (show Hid _ from HCV.out X Y)
      obtain ⟨a, ha⟩ : ∃ a, (fokB f && anyB f X Y) = a := ⟨_, rfl⟩
      obtain ⟨b, hb⟩ : ∃ b, (fokB g && anyB g X Y) = b := ⟨_, rfl⟩
      have A1 : Hid ((fokB f && anyB f X Y) = a) := ha
      have B1 : Hid ((fokB g && anyB g X Y) = b) := hb
      have C1 : Hid ((fokB L && anyB L X Y) = (a && b)) := by show _ = _; rw [HXY.out, ha, hb]
      clear ha hb HXY cX cY
      cases a <;> cases b <;> simp only [Bool.and_true, Bool.and_false, Bool.and_self] at C1
      all_goals go_wp2_with fail
      · (refine wp_region_bel (by kernel_rfl) (by kernel_rfl) ?_; (repeat (go_big_quiet_step ((first | (go_at_call 20; exact calls_bel (implCovers_eq C1.out (ts_bel th8 _))) | (go_at_call 20; exact calls_bel (implCovers_eq A1.out (ts_bel tf8 _))) | (go_at_call 20; exact calls_bel (implCovers_eq B1.out (ts_bel tg8 _))))))); refine wpQuiet_nil ?_)
        intro w9 hw9
        replace hw9 := bel_out hw9
        have hb9 := bStep hbr hw9
        go_wp2_with fail
        go_roundw
        case rel => exact ⟨k + 1, by omega, by go_num, hb9⟩
        case measure => simp [intOf]; omega
      · (refine wp_region_bel (by kernel_rfl) (by kernel_rfl) ?_; (repeat (go_big_quiet_step ((first | (go_at_call 20; exact calls_bel (implCovers_eq C1.out (ts_bel th8 _))) | (go_at_call 20; exact calls_bel (implCovers_eq A1.out (ts_bel tf8 _))) | (go_at_call 20; exact calls_bel (implCovers_eq B1.out (ts_bel tg8 _))))))); refine wpQuiet_nil ?_)
        intro w9 hw9
        replace hw9 := bel_out hw9
        have hb9 := bStep hbr hw9
        go_wp2_with fail
        go_roundw
        case rel => exact ⟨k + 1, by omega, by go_num, hb9⟩
        case measure => simp [intOf]; omega
      · (refine wp_region_bel (by kernel_rfl) (by kernel_rfl) ?_; (repeat (go_big_quiet_step ((first | (go_at_call 20; exact calls_bel (implCovers_eq C1.out (ts_bel th8 _))) | (go_at_call 20; exact calls_bel (implCovers_eq A1.out (ts_bel tf8 _))) | (go_at_call 20; exact calls_bel (implCovers_eq B1.out (ts_bel tg8 _))))))); refine wpQuiet_nil ?_)
        intro w9 hw9
        replace hw9 := bel_out hw9
        have hb9 := bStep hbr hw9
        go_wp2_with fail
        go_roundw
        case rel => exact ⟨k + 1, by omega, by go_num, hb9⟩
        case measure => simp [intOf]; omega
      · (refine wp_region_bel (by kernel_rfl) (by kernel_rfl) ?_; (repeat (go_big_quiet_step ((first | (go_at_call 20; exact calls_bel (implCovers_eq C1.out (ts_bel th8 _))) | (go_at_call 20; exact calls_bel (implCovers_eq A1.out (ts_bel tf8 _))) | (go_at_call 20; exact calls_bel (implCovers_eq B1.out (ts_bel tg8 _))))))); refine wpQuiet_nil ?_)
        intro w9 hw9
        replace hw9 := bel_out hw9
        have hb9 := bStep hbr hw9
        go_wp2_with fail
        go_roundw
        case rel => exact ⟨k + 1, by omega, by go_num, hb9⟩
        case measure => simp [intOf]; omega
    · have hbe := bStep hbw7 hbr
      have hfo := implFrontOk_eq HFO.out th8
      go_wp2_with fail
      refine hfo.mono ?_
      rintro e w9 ⟨rfl, hb9⟩
      go_wp2_with fail
      go_ret
      exact ⟨rfl, bStep hbe hb9⟩
end FnFrontBoth
namespace RowFnFrontBoth
theorem own : ownKnob Try.prog.godebug = none := by kernel_rfl
theorem laidOut : laidOutB Try.prog = true := by kernel_rfl
set_option maxRecDepth 100000 in
theorem lifted (os : Os) (started : os.Started) (H : Type) (enc : TypeId × Value → H) :
    ReturnsInHanded {} Try.checked os 9 .any (Rows.fnFrontBothSpec.pre6 enc Try.prog Try.f9 Rows.fnFrontBothRow.domain false) (Rows.fnFrontBothSpec.post enc Try.prog Try.f9 false true false false) := by
  refine returnsInHanded_of_change (C := Try.checked) own started (by kernel_rfl) Try.func9
    (ChangeSpec.witness6 (enc := enc) (C := Try.checked) false ⟨#[], #[.slice none 0 0], []⟩ 8 (by kernel_rfl) (by kernel_rfl) (by kernel_rfl) (by kernel_rfl)) ?_
  intro W base args ds gs before hval0 hW hcnd _
  have hval : ∀ (j : Nat) t v, Try.f9.params[j]? = some t → args[j]? = some v → Value.okWide Try.prog W .any base t v := hval0
  have hW' := hW
  obtain ⟨p, q, hA0, hV, rfl, hfz, hnd⟩ := hW
  have hA : DataW.TrodAll enc Try.prog W 0 (fun _ => true) true Try.f9.params.toList args.toList ds p := hA0
  rw [Try.params9] at hA hval
  obtain ⟨v0, vs0, d0, ds0, p0, q0, hargs, rfl, rfl, h0, r0⟩ := trodAll_cons hA
  obtain ⟨rfl, rfl, rfl⟩ := trodAll_nil r0
  obtain rfl : args = #[v0] := by cases args; simp_all
  obtain ⟨rfl, rfl⟩ := trodVars_none hV
  obtain ⟨a0, len0, cap0, rfl⟩ := okWide_slice Try.underlying22 (hval 0 22 v0 rfl rfl)
  have k0 := h0
  have lt0 : ∀ x ∈ p0, x.block < W.heap.size := by obtain ⟨m, hm⟩ := k0; exact DataW.trod_lt m _ _ _ hm
  have w0 : Src W (.slice a0 len0 cap0) len0 := by
    obtain ⟨fuel, hf⟩ := h0
    rcases open_ints Try.underlying22 Try.underlying5 (by kernel_rfl) hf with ⟨hcs, _⟩ | ⟨x, l, c, zs, hcs, _, hl, hm, hz, _, hcell, hwz⟩
    · simp [Value.cells] at hcs
      obtain ⟨rfl, rfl, rfl⟩ := hcs
      exact Src.nil _
    · simp [Value.cells] at hcs
      obtain ⟨rfl, rfl, rfl⟩ := hcs
      exact Src.of_row hl hm (by simpa using hz) hcell hwz
  clear hA0 hval0
  refine (FnFrontBoth.walk a0 len0 cap0 W w0).mono fun e W' ⟨he, bel⟩ => ?_
  subst he
  exact ⟨_, rfl, _, _, _, [], _, [], hW', trodAll_mk1 (shut_bool Try.underlying4 _), (trodAll_cons_mk (Below.trod laidOut (by kernel_rfl) (of_decide_eq_true (by kernel_rfl)) k0 bel lt0) trodAll_mk0), rfl, bel.frame _, fun h => by cases h⟩
theorem over : Rows.fnFrontBothRow.holds Try.pinned (OpenSpec.ofChange Rows.fnFrontBothSpec) :=
  OpenClaim.holds_of_wide 9 Try.f9 rfl rfl rfl rfl rfl rfl rfl ⟨rfl, rfl, rfl, rfl, rfl⟩ rfl rfl rfl rfl rfl (by kernel_rfl) Try.func9 (by kernel_rfl)
    (of_decide_eq_true (by kernel_rfl)) (by unfold Func.isWrapper; first | (rw [if_pos (by decide +kernel)]; kernel_rfl) | (rw [if_neg (by decide +kernel)]; exact ⟨rfl, rfl⟩))
    (fun os started H enc _ => lifted os started H enc)
end RowFnFrontBoth
theorem fnFrontBoth_holds : Rows.FnFrontBothSaid := RowFnFrontBoth.over
end Go.Proofs.Ytpmkhempkblokaa
