/- For all bytes: the meet of the two times that they draw is, among all times, the last that is not later than both, and it is ok; where one of them is not ok it is as the model's; the argument reads afterwards as before. No condition. -/
import Derived.Test.YtakkgcmkefhmjaaTimeC
import Derived.Test.YtakkgcmkefhmjaaTimeE
import Derived.Test.YtakkgcmkefhmjaaDraw4
import Derived.Test.YtakkgcmkefhmjaaLwAll
import Derived.ProofKit
import Derived.OpenShut
import Derived.ShutString
import Derived.ChangeOld
import Derived.Below
import Derived.Lib.SmallJoins
namespace Go.Proofs.Ytakkgcmkefhmjaa
open Go.ChangeShapes Go.WideShapes Go.ChangeAt Go.RowKit Go.Joins

theorem implLess_eq {a b c d : Int} {r : Bool} (h : leB a b c d = r) (w : World) : Calls Try.prog 16 #[tv a b, tv c d] w fun e w' => e = .returned (.bool r) ∧ Below w.heap.size w w' := by
  rw [← h]; exact implLess_any a b c d w

namespace FnTimeMeet
theorem okJ {a b c d : Int} (h : okB a b = true) (h' : okB c d = true) : okB (mtA a b c d) (mtB a b c d) = true := by
  simp [mtA, mtB, h, h']; simp [okB] at *; omega
theorem leJ {a b c d : Int} (x y : Int) (h : okB a b = true) (h' : okB c d = true) : leB x y (mtA a b c d) (mtB a b c d) = (leB x y a b && leB x y c d) := by
  have hj := okJ h h'
  have e1 : mtA a b c d = min a c := by simp [mtA, h, h']
  have e2 : mtB a b c d = min b d := by simp [mtB, h, h']
  unfold leB
  rw [hj, h, h', e1, e2, Bool.eq_iff_iff]
  cases okB x y <;> simp <;> omega

set_option maxHeartbeats 4000000 in
theorem walk (x0 : Option Addr) (len0 cap0 : Nat) (w : World) (h0 : Src w (.slice x0 len0 cap0) len0) :
    Calls Try.prog 4 #[.slice x0 len0 cap0] w fun e w' => e = .returned (.bool true) ∧ Below w.heap.size w w' := by
  by_cases g0 : (1048576 : Int) < (len0 : Int)
  · go_enter Try.func4, Try.ntmps4
    go_wp2_with fail
    go_ret
    exact ⟨rfl, Below.refl _ _⟩
  go_enter Try.func4, Try.ntmps4
  go_wp2_with fail
  refine (drawMeet_any _ _ _ _ h0).mono ?_
  rintro e w1 ⟨a, b, c, d, rfl, hb1⟩
  clear h0
  have bs : Bk ((w1.alloc (.cells #[.int .i64 a, .int .i64 b] 24)).alloc (.cells #[.int .i64 c, .int .i64 d] 24)) w1.heap.size #[.int .i64 a, .int .i64 b] 24 := (Bk.new _ _ rfl).alloc _
  have bt : Bk ((w1.alloc (.cells #[.int .i64 a, .int .i64 b] 24)).alloc (.cells #[.int .i64 c, .int .i64 d] 24)) (w1.heap.size + 1) #[.int .i64 c, .int .i64 d] 24 := Bk.new _ _ (by simp)
  have hb2 := bAlloc (bAlloc hb1 (.cells #[.int .i64 a, .int .i64 b] 24)) (.cells #[.int .i64 c, .int .i64 d] 24)
  go_wp2_with fail
  refine (implMeet_any _ _ _ _ _).mono ?_
  rintro e w3 ⟨rfl, hb3⟩
  have kj : ∀ x y, okB a b = true → okB c d = true → leB x y (mtA a b c d) (mtB a b c d) = (leB x y a b && leB x y c d) := fun x y h h' => leJ x y h h'
  have ko : okB a b = true → okB c d = true → okB (mtA a b c d) (mtB a b c d) = true := okJ
  generalize hJ1 : mtA a b c d = J1 at *
  generalize hJ2 : mtB a b c d = J2 at *
  have KJ := (show Hid _ from kj)
  have KO := (show Hid _ from ko)
  clear kj ko
  have bs3 := (bs.keep hb3).alloc (.cells #[.int .i64 J1, .int .i64 J2] 24)
  have bt3 := (bt.keep hb3).alloc (.cells #[.int .i64 J1, .int .i64 J2] 24)
  have bj3 := Bk.new (w := w3) #[.int .i64 J1, .int .i64 J2] 24 rfl
  have hbw3 := bAlloc (bStep hb2 hb3) (.cells #[.int .i64 J1, .int .i64 J2] 24)
  clear bs bt hb2 hb3
  go_upto_region 5 with fail
  generalize (w3.alloc (.cells #[.int .i64 J1, .int .i64 J2] 24)) = w5 at *
  have s0 := bs3.bel0
  have s1 := bs3.bel1
  have t0 := bt3.bel0
  have t1 := bt3.bel1
  have j0 := bj3.bel0
  have j1 := bj3.bel1
  have hne := bel_some w5
  by_cases hboth : okB a b = true ∧ okB c d = true
  · obtain ⟨hs, ht⟩ := hboth
    (refine wp_region_bel (by kernel_rfl) (by kernel_rfl) ?_; (repeat (go_big_quiet_step ((first | (go_at_call 20; exact calls_bel (specMeet_any _ _ _ _ _)) | (go_at_call 14; exact calls_bel (specOk_any _ _ _)))))); refine wpQuiet_nil ?_)
    intro w6 hw6
    replace hw6 := bel_out hw6
    clear s0 s1 t0 t1 j0 j1 hne
    have bs6 := bs3.keep hw6
    have bt6 := bt3.keep hw6
    have bj6 := bj3.keep hw6
    have hb6 := bStep hbw3 hw6
    clear bs3 bt3 bj3 hbw3 hw6
    go_wp2_with fail
    refine (lwAll_any _).mono ?_
    rintro e w7 ⟨g, cap, rfl, hown, hg, hw7⟩
    have bs7 := bs6.keep hw7
    have bt7 := bt6.keep hw7
    have bj7 := bj6.keep hw7
    have hb7 := bStep hb6 hw7
    have HO := (show Hid _ from hown)
    clear bs6 bt6 bj6 hb6 hw7 hown hg
    go_wp2_with fail
    go_loopw [7] (fun i wr => ∃ k : Nat, k ≤ 64 ∧ i = .int .i64 k ∧ Below w7.heap.size w7 wr) (fun i _ => 64 - (intOf i).toNat)
    case atStart => exact ⟨0, by omega, rfl, Below.refl _ _⟩
    case round =>
      obtain ⟨k, hk, rfl, hbr⟩ := hrel
      by_cases hlt : k < 64
      · have bs8 := bs7.keep hbr
        have bt8 := bt7.keep hbr
        have bj8 := bj7.keep hbr
        have s0 := bs8.bel0
        have s1 := bs8.bel1
        have t0 := bt8.bel0
        have t1 := bt8.bel1
        have j0 := bj8.bel0
        have j1 := bj8.bel1
        have hne := bel_some wr
        obtain ⟨X, Y, cX, cY⟩ : ∃ X Y : Int, w7.cell? ⟨g, k * 2, none⟩ = some (.int .i64 X) ∧ w7.cell? ⟨g, k * 2 + 1, none⟩ = some (.int .i64 Y) := ⟨_, _, (all_cells HO.out hlt).1, (all_cells HO.out hlt).2⟩
        have dX : ∀ p : Bel wr, p.ww.cell? ⟨g, k * 2, none⟩ = some (.int .i64 X) := fun p => cell_below p.below (cell_below hbr cX)
        have dY : ∀ p : Bel wr, p.ww.cell? ⟨g, k * 2 + 1, none⟩ = some (.int .i64 Y) := fun p => cell_below p.below (cell_below hbr cY)
        have e3 := KJ.out X Y hs ht
        have hk64 : decide ((k : Int) < 64) = true := by simp; omega
        clear cX cY
        cases e1 : leB X Y a b
        all_goals cases e2 : leB X Y c d
        all_goals rw [e1, e2] at e3
        all_goals simp only [Bool.and_true, Bool.and_false] at e3
        all_goals go_wp2_with fail
        all_goals (refine wp_region_bel (by kernel_rfl) (by kernel_rfl) ?_; (repeat (go_big_quiet_step ((first | (go_at_call 16; exact calls_bel (implLess_eq (by with_reducible assumption) _)))))); refine wpQuiet_nil ?_)
        all_goals intro w9 hw9
        all_goals replace hw9 := bel_out hw9
        all_goals have hb9 := bStep hbr hw9
        all_goals clear s0 s1 t0 t1 j0 j1 hne dX dY e1 e2 e3
        all_goals go_wp2_with fail
        all_goals go_roundw
        case rel => exact ⟨k + 1, by omega, by go_num, hb9⟩
        case measure => simp [intOf]; omega
        case rel => exact ⟨k + 1, by omega, by go_num, hb9⟩
        case measure => simp [intOf]; omega
        case rel => exact ⟨k + 1, by omega, by go_num, hb9⟩
        case measure => simp [intOf]; omega
        case rel => exact ⟨k + 1, by omega, by go_num, hb9⟩
        case measure => simp [intOf]; omega
      · have : k = 64 := by omega
        subst this
        obtain ⟨q0, q1, _, _⟩ := (bj7.keep hbr).two
        have hbe := bStep hb7 hbr
        go_wp2_with fail
        refine (implOk_any _ _ _).mono ?_
        rintro e w9 ⟨rfl, hb9⟩
        rw [KO.out hs ht]
        go_wp2_with fail
        go_ret
        refine ⟨rfl, ?_⟩
        repeat' (first | (with_reducible exact Below.refl _ _) | (with_reducible assumption) | (with_reducible refine bStep ?_ (by with_reducible assumption)) | (with_reducible refine bAlloc ?_ _) | (with_reducible refine Below.drew ?_) | (with_reducible refine bDrewN ?_ _) | (with_reducible refine Below.setCell ?_ ?_ _) | (simp; done) | (simp; omega) | omega)
  cases hs : okB a b
  · skip
    (refine wp_region_bel (by kernel_rfl) (by kernel_rfl) ?_; (repeat (go_big_quiet_step ((first | (go_at_call 20; exact calls_bel (specMeet_any _ _ _ _ _)) | (go_at_call 14; exact calls_bel (specOk_any _ _ _)))))); refine wpQuiet_nil ?_)
    intro w6 hw6
    replace hw6 := bel_out hw6
    clear s0 s1 t0 t1 j0 j1 hne
    have s0 := (bs3.keep hw6).bel0
    have s1 := (bs3.keep hw6).bel1
    have t0 := (bt3.keep hw6).bel0
    have t1 := (bt3.keep hw6).bel1
    have j0 := (bj3.keep hw6).bel0
    have j1 := (bj3.keep hw6).bel1
    have hne := bel_some w6
    go_wp2_with fail
    (refine wp_region_bel (by kernel_rfl) (by kernel_rfl) ?_; (repeat (go_big_quiet_step ((first | (go_at_call 20; exact calls_bel (specMeet_any _ _ _ _ _)))))); refine wpQuiet_nil ?_)
    intro w7 hw7
    replace hw7 := bel_out hw7
    go_wp2_with fail
    go_ret
    refine ⟨rfl, ?_⟩
    repeat' (first | (with_reducible exact Below.refl _ _) | (with_reducible assumption) | (with_reducible refine bStep ?_ (by with_reducible assumption)) | (with_reducible refine bAlloc ?_ _) | (with_reducible refine Below.drew ?_) | (with_reducible refine bDrewN ?_ _) | (with_reducible refine Below.setCell ?_ ?_ _) | (simp; done) | (simp; omega) | omega)
  · cases ht : okB c d
    · skip
      (refine wp_region_bel (by kernel_rfl) (by kernel_rfl) ?_; (repeat (go_big_quiet_step ((first | (go_at_call 20; exact calls_bel (specMeet_any _ _ _ _ _)) | (go_at_call 14; exact calls_bel (specOk_any _ _ _)))))); refine wpQuiet_nil ?_)
      intro w6 hw6
      replace hw6 := bel_out hw6
      clear s0 s1 t0 t1 j0 j1 hne
      have s0 := (bs3.keep hw6).bel0
      have s1 := (bs3.keep hw6).bel1
      have t0 := (bt3.keep hw6).bel0
      have t1 := (bt3.keep hw6).bel1
      have j0 := (bj3.keep hw6).bel0
      have j1 := (bj3.keep hw6).bel1
      have hne := bel_some w6
      go_wp2_with fail
      (refine wp_region_bel (by kernel_rfl) (by kernel_rfl) ?_; (repeat (go_big_quiet_step ((first | (go_at_call 20; exact calls_bel (specMeet_any _ _ _ _ _)))))); refine wpQuiet_nil ?_)
      intro w7 hw7
      replace hw7 := bel_out hw7
      go_wp2_with fail
      go_ret
      refine ⟨rfl, ?_⟩
      repeat' (first | (with_reducible exact Below.refl _ _) | (with_reducible assumption) | (with_reducible refine bStep ?_ (by with_reducible assumption)) | (with_reducible refine bAlloc ?_ _) | (with_reducible refine Below.drew ?_) | (with_reducible refine bDrewN ?_ _) | (with_reducible refine Below.setCell ?_ ?_ _) | (simp; done) | (simp; omega) | omega)
    · exact (hboth ⟨hs, ht⟩).elim
end FnTimeMeet
namespace RowFnTimeMeet
theorem own : ownKnob Try.prog.godebug = none := by kernel_rfl
theorem laidOut : laidOutB Try.prog = true := by kernel_rfl
set_option maxRecDepth 100000 in
theorem lifted (os : Os) (started : os.Started) (H : Type) (enc : TypeId × Value → H) :
    ReturnsInHanded {} Try.checked os 4 .any (Rows.fnTimeMeetSpec.pre6 enc Try.prog Try.f4 Rows.fnTimeMeetRow.domain false) (Rows.fnTimeMeetSpec.post enc Try.prog Try.f4 false true false false) := by
  refine returnsInHanded_of_change (C := Try.checked) own started (by kernel_rfl) Try.func4
    (ChangeSpec.witness6 (enc := enc) (C := Try.checked) false ⟨#[], #[.slice none 0 0], []⟩ 8 (by kernel_rfl) (by kernel_rfl) (by kernel_rfl) (by kernel_rfl)) ?_
  intro W base args ds gs before hval0 hW hcnd _
  have hval : ∀ (j : Nat) t v, Try.f4.params[j]? = some t → args[j]? = some v → Value.okWide Try.prog W .any base t v := hval0
  have hW' := hW
  obtain ⟨p, q, hA0, hV, rfl, hfz, hnd⟩ := hW
  have hA : DataW.TrodAll enc Try.prog W 0 (fun _ => true) true Try.f4.params.toList args.toList ds p := hA0
  rw [Try.params4] at hA hval
  obtain ⟨v0, vs0, d0, ds0, p0, q0, hargs, rfl, rfl, h0, r0⟩ := trodAll_cons hA
  obtain ⟨rfl, rfl, rfl⟩ := trodAll_nil r0
  obtain rfl : args = #[v0] := by cases args; simp_all
  obtain ⟨rfl, rfl⟩ := trodVars_none hV
  obtain ⟨a0, len0, cap0, rfl⟩ := okWide_slice Try.underlying22 (hval 0 22 v0 rfl rfl)
  have k0 := h0
  have lt0 : ∀ x ∈ p0, x.block < W.heap.size := by obtain ⟨m, hm⟩ := k0; exact DataW.trod_lt m _ _ _ hm
  have w0 : Src W (.slice a0 len0 cap0) len0 := by
    obtain ⟨fuel, hf⟩ := h0
    rcases open_ints Try.underlying22 Try.underlying5 (by kernel_rfl) hf with ⟨hcs, _⟩ | ⟨x, l, c, zs, hcs, _, hl, hm, hz, _, hcell, hwz⟩
    · simp [Value.cells] at hcs
      obtain ⟨rfl, rfl, rfl⟩ := hcs
      exact Src.nil _
    · simp [Value.cells] at hcs
      obtain ⟨rfl, rfl, rfl⟩ := hcs
      exact Src.of_row hl hm (by simpa using hz) hcell hwz
  clear hA0 hval0
  refine (FnTimeMeet.walk a0 len0 cap0 W w0).mono fun e W' ⟨he, bel⟩ => ?_
  subst he
  exact ⟨_, rfl, _, _, _, [], _, [], hW', trodAll_mk1 (shut_bool Try.underlying4 _), (trodAll_cons_mk (Below.trod laidOut (by kernel_rfl) (of_decide_eq_true (by kernel_rfl)) k0 bel lt0) trodAll_mk0), rfl, bel.frame _, fun h => by cases h⟩
theorem over : Rows.fnTimeMeetRow.holds Try.pinned (OpenSpec.ofChange Rows.fnTimeMeetSpec) :=
  OpenClaim.holds_of_wide 4 Try.f4 rfl rfl rfl rfl rfl rfl rfl ⟨rfl, rfl, rfl, rfl, rfl⟩ rfl rfl rfl rfl rfl (by kernel_rfl) Try.func4 (by kernel_rfl)
    (of_decide_eq_true (by kernel_rfl)) (by unfold Func.isWrapper; first | (rw [if_pos (by decide +kernel)]; kernel_rfl) | (rw [if_neg (by decide +kernel)]; exact ⟨rfl, rfl⟩))
    (fun os started H enc _ => lifted os started H enc)
end RowFnTimeMeet
theorem fnTimeMeet_holds : Rows.FnTimeMeetSaid := RowFnTimeMeet.over
end Go.Proofs.Ytakkgcmkefhmjaa
