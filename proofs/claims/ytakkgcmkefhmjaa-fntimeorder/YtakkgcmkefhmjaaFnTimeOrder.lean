/- For all bytes: of the times that they draw, two that are each not later than the other are the same, what is not later than one that is not later than a third one is not later than that, and TimeLess of the program answers as the model's; the arguments read afterwards as before. No condition. -/
import Derived.Test.YtakkgcmkefhmjaaTimeC
import Derived.Test.YtakkgcmkefhmjaaDraw3
import Derived.ProofKit
import Derived.OpenShut
import Derived.ShutString
import Derived.ChangeOld
import Derived.Below
import Derived.Lib.SmallJoins
namespace Go.Proofs.Ytakkgcmkefhmjaa
open Go.ChangeShapes Go.WideShapes Go.ChangeAt Go.RowKit Go.Joins

theorem leB_self (a b : Int) : leB a b a b = okB a b := by simp [leB]
theorem leB_anti {a b c d : Int} (h : leB a b c d = true) (h' : leB c d a b = true) : a = c ∧ b = d := by
  simp [leB] at h h'; omega
theorem leB_trans {a b c d e f : Int} (h : leB a b c d = true) (h' : leB c d e f = true) : leB a b e f = true := by
  simp [leB] at *; exact ⟨⟨⟨h.1.1.1, h'.1.1.2⟩, by omega⟩, by omega⟩

namespace FnTimeOrder
set_option maxHeartbeats 4000000 in
theorem walk (x0 : Option Addr) (len0 cap0 : Nat) (x1 : Option Addr) (len1 cap1 : Nat) (w : World) (h0 : Src w (.slice x0 len0 cap0) len0) (h1 : Src w (.slice x1 len1 cap1) len1) :
    Calls Try.prog 5 #[.slice x0 len0 cap0, .slice x1 len1 cap1] w fun e w' => e = .returned (.bool true) ∧ Below w.heap.size w w' := by
  by_cases g0 : (1048576 : Int) < (len0 : Int)
  · go_enter Try.func5, Try.ntmps5
    go_wp2_with fail
    go_ret
    exact ⟨rfl, Below.refl _ _⟩
  by_cases g1 : (1048576 : Int) < (len1 : Int)
  · go_enter Try.func5, Try.ntmps5
    go_wp2_with fail
    go_ret
    exact ⟨rfl, Below.refl _ _⟩
  go_enter Try.func5, Try.ntmps5
  go_wp2_with fail
  refine (drawLess_any _ _ _ _ h0).mono ?_
  rintro e w1 ⟨a, b, c, d, rfl, hb1⟩
  go_wp2_with fail
  have h1' := (h1.keep hb1).keep (bAlloc (bAlloc (Below.refl _ w1) (.cells #[.int .i64 a, .int .i64 b] 24)) (.cells #[.int .i64 c, .int .i64 d] 24))
  refine (drawLess_any _ _ _ _ h1').mono ?_
  rintro e w2 ⟨_, _, u, v, rfl, hb2⟩
  obtain ⟨bs, bt⟩ := boxed2 hb2
  clear h0 h1 h1'
  rename_i y1 y2
  obtain ⟨s0, s1, _, _⟩ := bs.two
  obtain ⟨t0, t1, _, _⟩ := bt.two
  have ls := bs.lt
  have lt := bt.lt
  have hself := leB_self a b
  generalize hk : leB a b c d = k
  generalize ho : okB a b = o at *
  go_wp2_with fail
  refine (implLess_any _ _ _ _ _).mono ?_
  rintro e w3 ⟨rfl, hb3⟩
  have bs3 := ((bs.alloc (.cells #[.int .i64 y1, .int .i64 y2] 24)).alloc (.cells #[.int .i64 u, .int .i64 v] 24)).keep hb3
  have bt3 := ((bt.alloc (.cells #[.int .i64 y1, .int .i64 y2] 24)).alloc (.cells #[.int .i64 u, .int .i64 v] 24)).keep hb3
  have bu3 := (Bk.new (w := w2.alloc (.cells #[.int .i64 y1, .int .i64 y2] 24)) (k := w2.heap.size + 1) #[.int .i64 u, .int .i64 v] 24 (by simp)).keep hb3
  have hbw : Below w.heap.size w w3 := by
    repeat' (first | (with_reducible exact Below.refl _ _) | (with_reducible assumption) | (with_reducible refine bStep ?_ (by with_reducible assumption)) | (with_reducible refine bAlloc ?_ _) | (with_reducible refine Below.drew ?_) | (with_reducible refine bDrewN ?_ _) | (with_reducible refine Below.setCell ?_ ?_ _) | (simp; done) | (simp; omega) | omega)
  clear s0 s1 t0 t1 ls lt bs bt hb1 hb2 hb3
  have s0 := bs3.bel0
  have s1 := bs3.bel1
  have t0 := bt3.bel0
  have t1 := bt3.bel1
  have hne := bel_some w3
  rw [hk]
  cases k
  all_goals cases o
  all_goals go_wp2_with fail
  all_goals (refine wp_region_bel (by kernel_rfl) (by kernel_rfl) ?_; (repeat (go_big_quiet_step ((first | (go_at_call 22; exact calls_bel (specLess_any _ _ _ _ _)) | (go_at_call 16; exact calls_bel (implLess_any _ _ _ _ _)) | (go_at_call 14; exact calls_bel (specOk_any _ _ _)))))); refine wpQuiet_nil ?_)
  all_goals intro w4 hw4
  all_goals replace hw4 := bel_out hw4
  all_goals have bs4 := bs3.keep hw4
  all_goals have bt4 := bt3.keep hw4
  all_goals have bu4 := bu3.keep hw4
  all_goals clear s0 s1 t0 t1 hne
  all_goals obtain ⟨s0, s1, _, _⟩ := bs4.two
  all_goals obtain ⟨t0, t1, _, _⟩ := bt4.two
  all_goals obtain ⟨u0, u1, _, _⟩ := bu4.two
  iterate 2
    · go_wp2_with fail
      go_ret
      refine ⟨rfl, ?_⟩
      repeat' (first | (with_reducible exact Below.refl _ _) | (with_reducible assumption) | (with_reducible refine bStep ?_ (by with_reducible assumption)) | (with_reducible refine bAlloc ?_ _) | (with_reducible refine Below.drew ?_) | (with_reducible refine bDrewN ?_ _) | (with_reducible refine Below.setCell ?_ ?_ _) | (simp; done) | (simp; omega) | omega)
  all_goals
    cases h2 : leB c d a b
    · cases h3 : leB c d u v
      · go_wp2_with fail
        refine (implLess_any _ _ _ _ _).mono ?_
        rintro e w5 ⟨rfl, hb5⟩
        obtain ⟨_, _, _, _⟩ := (bt4.keep hb5).two
        obtain ⟨_, _, _, _⟩ := (bu4.keep hb5).two
        rw [h2]
        go_wp2_with fail
        refine (implLess_any _ _ _ _ _).mono ?_
        rintro e w6 ⟨rfl, hb6⟩
        rw [h3]
        go_wp2_with fail
        go_ret
        refine ⟨rfl, ?_⟩
        repeat' (first | (with_reducible exact Below.refl _ _) | (with_reducible assumption) | (with_reducible refine bStep ?_ (by with_reducible assumption)) | (with_reducible refine bAlloc ?_ _) | (with_reducible refine Below.drew ?_) | (with_reducible refine bDrewN ?_ _) | (with_reducible refine Below.setCell ?_ ?_ _) | (simp; done) | (simp; omega) | omega)
      · have h4 := leB_trans hk h3
        go_wp2_with fail
        refine (implLess_any _ _ _ _ _).mono ?_
        rintro e w5 ⟨rfl, hb5⟩
        have bs5 := bs4.keep hb5
        have bu5 := bu4.keep hb5
        obtain ⟨_, _, _, _⟩ := (bt4.keep hb5).two
        obtain ⟨_, _, _, _⟩ := bu5.two
        rw [h2]
        go_wp2_with fail
        refine (implLess_any _ _ _ _ _).mono ?_
        rintro e w6 ⟨rfl, hb6⟩
        obtain ⟨_, _, _, _⟩ := (bs5.keep hb6).two
        obtain ⟨_, _, _, _⟩ := (bu5.keep hb6).two
        rw [h3]
        go_wp2_with fail
        refine (implLess_any _ _ _ _ _).mono ?_
        rintro e w7 ⟨rfl, hb7⟩
        rw [h4]
        go_wp2_with fail
        go_ret
        refine ⟨rfl, ?_⟩
        repeat' (first | (with_reducible exact Below.refl _ _) | (with_reducible assumption) | (with_reducible refine bStep ?_ (by with_reducible assumption)) | (with_reducible refine bAlloc ?_ _) | (with_reducible refine Below.drew ?_) | (with_reducible refine bDrewN ?_ _) | (with_reducible refine Below.setCell ?_ ?_ _) | (simp; done) | (simp; omega) | omega)
    · obtain ⟨rfl, rfl⟩ := leB_anti hk h2
      cases h3 : leB a b u v
      · go_wp2_with fail
        refine (implLess_any _ _ _ _ _).mono ?_
        rintro e w5 ⟨rfl, hb5⟩
        obtain ⟨_, _, _, _⟩ := (bs4.keep hb5).two
        obtain ⟨_, _, _, _⟩ := (bt4.keep hb5).two
        obtain ⟨_, _, _, _⟩ := (bu4.keep hb5).two
        rw [h2]
        go_wp2_with fail
        refine (implLess_any _ _ _ _ _).mono ?_
        rintro e w6 ⟨rfl, hb6⟩
        rw [h3]
        go_wp2_with fail
        go_ret
        refine ⟨rfl, ?_⟩
        repeat' (first | (with_reducible exact Below.refl _ _) | (with_reducible assumption) | (with_reducible refine bStep ?_ (by with_reducible assumption)) | (with_reducible refine bAlloc ?_ _) | (with_reducible refine Below.drew ?_) | (with_reducible refine bDrewN ?_ _) | (with_reducible refine Below.setCell ?_ ?_ _) | (simp; done) | (simp; omega) | omega)
      · go_wp2_with fail
        refine (implLess_any _ _ _ _ _).mono ?_
        rintro e w5 ⟨rfl, hb5⟩
        have bs5 := bs4.keep hb5
        have bu5 := bu4.keep hb5
        obtain ⟨_, _, _, _⟩ := bs5.two
        obtain ⟨_, _, _, _⟩ := (bt4.keep hb5).two
        obtain ⟨_, _, _, _⟩ := bu5.two
        rw [h2]
        go_wp2_with fail
        refine (implLess_any _ _ _ _ _).mono ?_
        rintro e w6 ⟨rfl, hb6⟩
        obtain ⟨_, _, _, _⟩ := (bs5.keep hb6).two
        obtain ⟨_, _, _, _⟩ := (bu5.keep hb6).two
        rw [h3]
        go_wp2_with fail
        refine (implLess_any _ _ _ _ _).mono ?_
        rintro e w7 ⟨rfl, hb7⟩
        rw [h3]
        go_wp2_with fail
        go_ret
        refine ⟨rfl, ?_⟩
        repeat' (first | (with_reducible exact Below.refl _ _) | (with_reducible assumption) | (with_reducible refine bStep ?_ (by with_reducible assumption)) | (with_reducible refine bAlloc ?_ _) | (with_reducible refine Below.drew ?_) | (with_reducible refine bDrewN ?_ _) | (with_reducible refine Below.setCell ?_ ?_ _) | (simp; done) | (simp; omega) | omega)
end FnTimeOrder
namespace RowFnTimeOrder
theorem own : ownKnob Try.prog.godebug = none := by kernel_rfl
theorem laidOut : laidOutB Try.prog = true := by kernel_rfl
set_option maxRecDepth 100000 in
theorem lifted (os : Os) (started : os.Started) (H : Type) (enc : TypeId × Value → H) :
    ReturnsInHanded {} Try.checked os 5 .any (Rows.fnTimeOrderSpec.pre6 enc Try.prog Try.f5 Rows.fnTimeOrderRow.domain false) (Rows.fnTimeOrderSpec.post enc Try.prog Try.f5 false true false false) := by
  refine returnsInHanded_of_change (C := Try.checked) own started (by kernel_rfl) Try.func5
    (ChangeSpec.witness6 (enc := enc) (C := Try.checked) false ⟨#[], #[.slice none 0 0, .slice none 0 0], []⟩ 8 (by kernel_rfl) (by kernel_rfl) (by kernel_rfl) (by kernel_rfl)) ?_
  intro W base args ds gs before hval0 hW hcnd _
  have hval : ∀ (j : Nat) t v, Try.f5.params[j]? = some t → args[j]? = some v → Value.okWide Try.prog W .any base t v := hval0
  have hW' := hW
  obtain ⟨p, q, hA0, hV, rfl, hfz, hnd⟩ := hW
  have hA : DataW.TrodAll enc Try.prog W 0 (fun _ => true) true Try.f5.params.toList args.toList ds p := hA0
  rw [Try.params5] at hA hval
  obtain ⟨v0, vs0, d0, ds0, p0, q0, hargs, rfl, rfl, h0, r0⟩ := trodAll_cons hA
  obtain ⟨v1, vs1, d1, ds1, p1, q1, rfl, rfl, rfl, h1, r1⟩ := trodAll_cons r0
  obtain ⟨rfl, rfl, rfl⟩ := trodAll_nil r1
  obtain rfl : args = #[v0, v1] := by cases args; simp_all
  obtain ⟨rfl, rfl⟩ := trodVars_none hV
  obtain ⟨a0, len0, cap0, rfl⟩ := okWide_slice Try.underlying22 (hval 0 22 v0 rfl rfl)
  have k0 := h0
  have lt0 : ∀ x ∈ p0, x.block < W.heap.size := by obtain ⟨m, hm⟩ := k0; exact DataW.trod_lt m _ _ _ hm
  have w0 : Src W (.slice a0 len0 cap0) len0 := by
    obtain ⟨fuel, hf⟩ := h0
    rcases open_ints Try.underlying22 Try.underlying5 (by kernel_rfl) hf with ⟨hcs, _⟩ | ⟨x, l, c, zs, hcs, _, hl, hm, hz, _, hcell, hwz⟩
    · simp [Value.cells] at hcs
      obtain ⟨rfl, rfl, rfl⟩ := hcs
      exact Src.nil _
    · simp [Value.cells] at hcs
      obtain ⟨rfl, rfl, rfl⟩ := hcs
      exact Src.of_row hl hm (by simpa using hz) hcell hwz
  obtain ⟨a1, len1, cap1, rfl⟩ := okWide_slice Try.underlying22 (hval 1 22 v1 rfl rfl)
  have k1 := h1
  have lt1 : ∀ x ∈ p1, x.block < W.heap.size := by obtain ⟨m, hm⟩ := k1; exact DataW.trod_lt m _ _ _ hm
  have w1 : Src W (.slice a1 len1 cap1) len1 := by
    obtain ⟨fuel, hf⟩ := h1
    rcases open_ints Try.underlying22 Try.underlying5 (by kernel_rfl) hf with ⟨hcs, _⟩ | ⟨x, l, c, zs, hcs, _, hl, hm, hz, _, hcell, hwz⟩
    · simp [Value.cells] at hcs
      obtain ⟨rfl, rfl, rfl⟩ := hcs
      exact Src.nil _
    · simp [Value.cells] at hcs
      obtain ⟨rfl, rfl, rfl⟩ := hcs
      exact Src.of_row hl hm (by simpa using hz) hcell hwz
  clear hA0 hval0
  refine (FnTimeOrder.walk a0 len0 cap0 a1 len1 cap1 W w0 w1).mono fun e W' ⟨he, bel⟩ => ?_
  subst he
  exact ⟨_, rfl, _, _, _, [], _, [], hW', trodAll_mk1 (shut_bool Try.underlying4 _), (trodAll_cons_mk (Below.trod laidOut (by kernel_rfl) (of_decide_eq_true (by kernel_rfl)) k0 bel lt0) (trodAll_cons_mk (Below.trod laidOut (by kernel_rfl) (of_decide_eq_true (by kernel_rfl)) k1 bel lt1) trodAll_mk0)), rfl, bel.frame _, fun h => by cases h⟩
theorem over : Rows.fnTimeOrderRow.holds Try.pinned (OpenSpec.ofChange Rows.fnTimeOrderSpec) :=
  OpenClaim.holds_of_wide 5 Try.f5 rfl rfl rfl rfl rfl rfl rfl ⟨rfl, rfl, rfl, rfl, rfl⟩ rfl rfl rfl rfl rfl (by kernel_rfl) Try.func5 (by kernel_rfl)
    (of_decide_eq_true (by kernel_rfl)) (by unfold Func.isWrapper; first | (rw [if_pos (by decide +kernel)]; kernel_rfl) | (rw [if_neg (by decide +kernel)]; exact ⟨rfl, rfl⟩))
    (fun os started H enc _ => lifted os started H enc)
end RowFnTimeOrder
theorem fnTimeOrder_holds : Rows.FnTimeOrderSaid := RowFnTimeOrder.over
end Go.Proofs.Ytakkgcmkefhmjaa
