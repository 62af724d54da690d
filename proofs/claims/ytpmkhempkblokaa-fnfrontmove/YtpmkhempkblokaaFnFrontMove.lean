/- For all bytes: of the front and the time that they draw, the moved time says the same of all times that the front covers, it is not earlier than the time, and FrontMove of the program answers as the model's; the argument reads afterwards as before. No condition. -/
import Derived.Test.YtpmkhempkblokaaFr13
import Derived.Deep.DeepCutAuto
namespace Go.Proofs.Ytpmkhempkblokaa
open Go.ChangeShapes Go.WideShapes Go.ChangeAt Go.RowKit Go.Joins

namespace FnFrontMove
set_option maxHeartbeats 8000000 in
theorem walk (x0 : Option Addr) (len0 cap0 : Nat) (w : World) (h0 : Src w (.slice x0 len0 cap0) len0) :
    Calls Try.prog 6 #[.slice x0 len0 cap0] w fun e w' => e = .returned (.bool true) ∧ Below w.heap.size w w' := by
  by_cases g0 : (1048576 : Int) < (len0 : Int)
  · go_enter Try.func6, Try.ntmps6
    go_wp2_with fail
    go_ret
    exact ⟨rfl, Below.refl _ _⟩
  go_enter Try.func6, Try.ntmps6
  go_wp2_with fail
  refine (drawMove_any _ _ _ _ h0).mono ?_
  rintro e w1 ⟨o, f, x, y, rfl, hl, hown, hb1⟩
  have ts1 := hown.ts (by omega)
  clear h0 hown
  have bt2 := Bk.new (w := w1) #[.int .i64 x, .int .i64 y] 29 rfl
  have ts2 := ts1.keep (bAlloc (Below.refl _ _) (.cells #[.int .i64 x, .int .i64 y] 29))
  have hb2 := bAlloc hb1 (.cells #[.int .i64 x, .int .i64 y] 29)
  obtain ⟨m1, m2, hmv⟩ : ∃ m1 m2 : Int, moveV f x y = (m1, m2) := ⟨_, _, rfl⟩
  have HM : Hid (moveV f x y = (m1, m2)) := hmv
  clear hmv ts1
  go_wp2_with fail
  generalize (w1.alloc (.cells #[.int .i64 x, .int .i64 y] 29)) = w2 at *
  refine (implFrontMove_eq HM.out ts2).mono ?_
  rintro e w3 ⟨rfl, hb3⟩
  have bt5 := (bt2.keep hb3).alloc (.cells #[.int .i64 m1, .int .i64 m2] 29)
  have bm5 := Bk.new (w := w3) #[.int .i64 m1, .int .i64 m2] 29 rfl
  have ts5 := (ts2.keep hb3).keep (bAlloc (Below.refl _ _) (.cells #[.int .i64 m1, .int .i64 m2] 29))
  have hb5 := bAlloc (bStep hb2 hb3) (.cells #[.int .i64 m1, .int .i64 m2] 29)
  clear bt2 ts2 hb2 hb3
  go_upto_region 5 with fail
  generalize (w3.alloc (.cells #[.int .i64 m1, .int .i64 m2] 29)) = w5 at *
  have s0 := bt5.bel0
  have s1 := bt5.bel1
  have j0 := bm5.bel0
  have j1 := bm5.bel1
  have hne := bel_some w5
  cases hf : fokB f
  · skip
    (refine wp_region_bel (by kernel_rfl) (by kernel_rfl) ?_; (repeat (go_big_quiet_step ((first | (go_at_call 30; exact calls_bel (specFrontMove_eq HM.out (ts_bel ts5 _))) | (go_at_call 24; exact calls_bel (specFrontOk_eq (by with_reducible assumption) (ts_bel ts5 _))) | (go_at_call 31; exact calls_bel (specOk_eq (by with_reducible assumption) _)))))); refine wpQuiet_nil ?_)
    intro w6 hw6
    replace hw6 := bel_out hw6
    clear s0 s1 j0 j1 hne
    have bt6 := bt5.keep hw6
    have bm6 := bm5.keep hw6
    have ts6 := ts5.keep hw6
    have hb6 := bStep hb5 hw6
    have s0 := bt6.bel0
    have s1 := bt6.bel1
    have j0 := bm6.bel0
    have j1 := bm6.bel1
    have hne := bel_some w6
    go_wp2_with fail
    (refine wp_region_bel (by kernel_rfl) (by kernel_rfl) ?_; (repeat (go_big_quiet_step ((first | (go_at_call 30; exact calls_bel (specFrontMove_eq HM.out (ts_bel ts6 _))))))); refine wpQuiet_nil ?_)
    intro w7 hw7
    replace hw7 := bel_out hw7
    go_wp2_with fail
    go_ret
    exact ⟨rfl, bStep hb6 hw7⟩
  cases ho : okB x y
  · skip
    (refine wp_region_bel (by kernel_rfl) (by kernel_rfl) ?_; (repeat (go_big_quiet_step ((first | (go_at_call 30; exact calls_bel (specFrontMove_eq HM.out (ts_bel ts5 _))) | (go_at_call 24; exact calls_bel (specFrontOk_eq (by with_reducible assumption) (ts_bel ts5 _))) | (go_at_call 31; exact calls_bel (specOk_eq (by with_reducible assumption) _)))))); refine wpQuiet_nil ?_)
    intro w6 hw6
    replace hw6 := bel_out hw6
    clear s0 s1 j0 j1 hne
    have bt6 := bt5.keep hw6
    have bm6 := bm5.keep hw6
    have ts6 := ts5.keep hw6
    have hb6 := bStep hb5 hw6
    have s0 := bt6.bel0
    have s1 := bt6.bel1
    have j0 := bm6.bel0
    have j1 := bm6.bel1
    have hne := bel_some w6
    go_wp2_with fail
    (refine wp_region_bel (by kernel_rfl) (by kernel_rfl) ?_; (repeat (go_big_quiet_step ((first | (go_at_call 30; exact calls_bel (specFrontMove_eq HM.out (ts_bel ts6 _))))))); refine wpQuiet_nil ?_)
    intro w7 hw7
    replace hw7 := bel_out hw7
    go_wp2_with fail
    go_ret
    exact ⟨rfl, bStep hb6 hw7⟩
  (refine wp_region_bel (by kernel_rfl) (by kernel_rfl) ?_; (repeat (go_big_quiet_step ((first | (go_at_call 30; exact calls_bel (specFrontMove_eq HM.out (ts_bel ts5 _))) | (go_at_call 24; exact calls_bel (specFrontOk_eq (by with_reducible assumption) (ts_bel ts5 _))) | (go_at_call 31; exact calls_bel (specOk_eq (by with_reducible assumption) _)))))); refine wpQuiet_nil ?_)
  intro w6 hw6
  replace hw6 := bel_out hw6
  clear s0 s1 j0 j1 hne
  have bt6 := bt5.keep hw6
  have bm6 := bm5.keep hw6
  have ts6 := ts5.keep hw6
  have hb6 := bStep hb5 hw6
  have HS : Hid (∀ X Y, anyB f X Y = true → leB x y X Y = leB m1 m2 X Y) := fun X Y h => move_same hf ho HM.out h
  have HG : Hid (leB x y m1 m2 = true) := move_ge hf ho HM.out
  have HF : Hid (fokB f = true) := hf
  clear bt5 bm5 ts5 hb5 hw6 hf ho
  go_wp2_with fail
  refine (lwAll_any _).mono ?_
  rintro e w7 ⟨g, cap, rfl, hown, hg, hw7⟩
  have bt7 := bt6.keep hw7
  have bm7 := bm6.keep hw7
  have ts7 := ts6.keep hw7
  have hb7 := bStep hb6 hw7
  have HO := (show Hid _ from hown)
  clear bt6 bm6 ts6 hb6 hw7 hown hg
  go_wp2_with fail
  go_loopw [7] (fun i wr => ∃ k : Nat, k ≤ 64 ∧ i = .int .i64 k ∧ Below w7.heap.size w7 wr) (fun i _ => 64 - (intOf i).toNat)
  case atStart => exact ⟨0, by omega, rfl, Below.refl _ _⟩
  case round =>
    obtain ⟨k, hk, rfl, hbr⟩ := hrel
    by_cases hlt : k < 64
    · have bt8 := bt7.keep hbr
      have bm8 := bm7.keep hbr
      have ts8 := ts7.keep hbr
      have t0 := bt8.bel0
      have t1 := bt8.bel1
      have j0 := bm8.bel0
      have j1 := bm8.bel1
      have hne := bel_some wr
      obtain ⟨X, Y, cX, cY⟩ : ∃ X Y : Int, w7.cell? ⟨g, k * 2, none⟩ = some (.int .i64 X) ∧ w7.cell? ⟨g, k * 2 + 1, none⟩ = some (.int .i64 Y) := ⟨_, _, (all_cells HO.out hlt).1, (all_cells HO.out hlt).2⟩
      have dX : ∀ p : Bel wr, p.ww.cell? ⟨g, k * 2, none⟩ = some (.int .i64 X) := fun p => cell_below p.below (cell_below hbr cX)
      have dY : ∀ p : Bel wr, p.ww.cell? ⟨g, k * 2 + 1, none⟩ = some (.int .i64 Y) := fun p => cell_below p.below (cell_below hbr cY)
      have hk64 : decide ((k : Int) < 64) = true := by simp; omega
      clear cX cY
      cases hc : (fokB f && anyB f X Y)
      · go_wp2_with fail
        (refine wp_region_bel (by kernel_rfl) (by kernel_rfl) ?_; (repeat (go_big_quiet_step ((first | (go_at_call 20; exact calls_bel (implCovers_eq (by with_reducible assumption) (ts_bel ts8 _))) | (go_at_call 21; exact calls_bel (implLess_eq (by with_reducible assumption) _)))))); refine wpQuiet_nil ?_)
        intro w9 hw9
        replace hw9 := bel_out hw9
        have hb9 := bStep hbr hw9
        go_wp2_with fail
        go_roundw
        case rel => exact ⟨k + 1, by omega, by go_num, hb9⟩
        case measure => simp [intOf]; omega
      · have HE := HS.out X Y (by rw [HF.out] at hc; simpa using hc)
        cases hle : leB x y X Y
        · rw [hle] at HE
          replace HE := HE.symm
          go_wp2_with fail
          (refine wp_region_bel (by kernel_rfl) (by kernel_rfl) ?_; (repeat (go_big_quiet_step ((first | (go_at_call 20; exact calls_bel (implCovers_eq (by with_reducible assumption) (ts_bel ts8 _))) | (go_at_call 21; exact calls_bel (implLess_eq (by with_reducible assumption) _)))))); refine wpQuiet_nil ?_)
          intro w9 hw9
          replace hw9 := bel_out hw9
          have hb9 := bStep hbr hw9
          go_wp2_with fail
          go_roundw
          case rel => exact ⟨k + 1, by omega, by go_num, hb9⟩
          case measure => simp [intOf]; omega
        · rw [hle] at HE
          replace HE := HE.symm
          go_wp2_with fail
          (refine wp_region_bel (by kernel_rfl) (by kernel_rfl) ?_; (repeat (go_big_quiet_step ((first | (go_at_call 20; exact calls_bel (implCovers_eq (by with_reducible assumption) (ts_bel ts8 _))) | (go_at_call 21; exact calls_bel (implLess_eq (by with_reducible assumption) _)))))); refine wpQuiet_nil ?_)
          intro w9 hw9
          replace hw9 := bel_out hw9
          have hb9 := bStep hbr hw9
          go_wp2_with fail
          go_roundw
          case rel => exact ⟨k + 1, by omega, by go_num, hb9⟩
          case measure => simp [intOf]; omega
    · have bt8 := bt7.keep hbr
      have bm8 := bm7.keep hbr
      have hb8 := bStep hb7 hbr
      obtain ⟨t0, t1, _, _⟩ := bt8.two
      obtain ⟨j0, j1, _, _⟩ := bm8.two
      go_wp2_with fail
      refine (implLess_eq HG.out _).mono ?_
      rintro e w9 ⟨rfl, hb9⟩
      go_wp2_with fail
      go_ret
      exact ⟨rfl, bStep hb8 hb9⟩
end FnFrontMove
namespace RowFnFrontMove
theorem own : ownKnob Try.prog.godebug = none := by kernel_rfl
theorem laidOut : laidOutB Try.prog = true := by kernel_rfl
set_option maxRecDepth 100000 in
theorem lifted (os : Os) (started : os.Started) (H : Type) (enc : TypeId × Value → H) :
    ReturnsInHanded {} Try.checked os 6 .any (Rows.fnFrontMoveSpec.pre6 enc Try.prog Try.f6 Rows.fnFrontMoveRow.domain false) (Rows.fnFrontMoveSpec.post enc Try.prog Try.f6 false true false false) := by
  refine returnsInHanded_of_change (C := Try.checked) own started (by kernel_rfl) Try.func6
    (ChangeSpec.witness6 (enc := enc) (C := Try.checked) false ⟨#[], #[.slice none 0 0], []⟩ 8 (by kernel_rfl) (by kernel_rfl) (by kernel_rfl) (by kernel_rfl)) ?_
  intro W base args ds gs before hval0 hW hcnd _
  have hval : ∀ (j : Nat) t v, Try.f6.params[j]? = some t → args[j]? = some v → Value.okWide Try.prog W .any base t v := hval0
  have hW' := hW
  obtain ⟨p, q, hA0, hV, rfl, hfz, hnd⟩ := hW
  have hA : DataW.TrodAll enc Try.prog W 0 (fun _ => true) true Try.f6.params.toList args.toList ds p := hA0
  rw [Try.params6] at hA hval
  obtain ⟨v0, vs0, d0, ds0, p0, q0, hargs, rfl, rfl, h0, r0⟩ := trodAll_cons hA
  obtain ⟨rfl, rfl, rfl⟩ := trodAll_nil r0
  obtain rfl : args = #[v0] := by cases args; simp_all
  obtain ⟨rfl, rfl⟩ := trodVars_none hV
  obtain ⟨a0, len0, cap0, rfl⟩ := okWide_slice Try.underlying22 (hval 0 22 v0 rfl rfl)
  have k0 := h0
  have lt0 : ∀ x ∈ p0, x.block < W.heap.size := by obtain ⟨m, hm⟩ := k0; exact DataW.trod_lt m _ _ _ hm
  have w0 : Src W (.slice a0 len0 cap0) len0 := by
    obtain ⟨fuel, hf⟩ := h0
    rcases open_ints Try.underlying22 Try.underlying5 (by kernel_rfl) hf with ⟨hcs, _⟩ | ⟨x, l, c, zs, hcs, _, hl, hm, hz, _, hcell, hwz⟩
    · simp [Value.cells] at hcs
      obtain ⟨rfl, rfl, rfl⟩ := hcs
      exact Src.nil _
    · simp [Value.cells] at hcs
      obtain ⟨rfl, rfl, rfl⟩ := hcs
      exact Src.of_row hl hm (by simpa using hz) hcell hwz
  clear hA0 hval0
  refine (FnFrontMove.walk a0 len0 cap0 W w0).mono fun e W' ⟨he, bel⟩ => ?_
  subst he
  exact ⟨_, rfl, _, _, _, [], _, [], hW', trodAll_mk1 (shut_bool Try.underlying4 _), (trodAll_cons_mk (Below.trod laidOut (by kernel_rfl) (of_decide_eq_true (by kernel_rfl)) k0 bel lt0) trodAll_mk0), rfl, bel.frame _, fun h => by cases h⟩
theorem over : Rows.fnFrontMoveRow.holds Try.pinned (OpenSpec.ofChange Rows.fnFrontMoveSpec) :=
  OpenClaim.holds_of_wide 6 Try.f6 rfl rfl rfl rfl rfl rfl rfl ⟨rfl, rfl, rfl, rfl, rfl⟩ rfl rfl rfl rfl rfl (by kernel_rfl) Try.func6 (by kernel_rfl)
    (of_decide_eq_true (by kernel_rfl)) (by unfold Func.isWrapper; first | (rw [if_pos (by decide +kernel)]; kernel_rfl) | (rw [if_neg (by decide +kernel)]; exact ⟨rfl, rfl⟩))
    (fun os started H enc _ => lifted os started H enc)
end RowFnFrontMove
theorem fnFrontMove_holds : Rows.FnFrontMoveSaid := RowFnFrontMove.over
end Go.Proofs.Ytpmkhempkblokaa
