/- For every two times, whatever their numbers, TimeJoin of the program answers as TimeJoin of the model, and the arguments read afterwards as before. No condition. -/
import Derived.Test.YtakkgcmkefhmjaaTimeD
import Derived.Deep.DeepCutAuto
import Derived.Deep.DrawnRows
import Derived.Deep.RegionHeld3
import Derived.Test.YtakkgcmkefhmjaaToTime
import Derived.Test.YtakkgcmkefhmjaaBase2
import Derived.ProofKit
import Derived.OpenShut
import Derived.ShutString
import Derived.ChangeOld
import Derived.Below
import Derived.Lib.SmallJoins
namespace Go.Proofs.Ytakkgcmkefhmjaa
attribute [local go_sem ↓] Go.wp_at_zero Go.wp_at_succ
open Go.ChangeShapes Go.WideShapes Go.ChangeAt Go.RowKit Go.Joins

namespace FnExactTimeJoin
set_option maxHeartbeats 1000000 in
theorem walk (a b c d : Int) (w : World) :
    Calls Try.prog 9 #[tv a b, tv c d] w fun e w' => e = .returned (.bool true) ∧ Below w.heap.size w w' := by
  have bs : Bk ((w.alloc (.cells #[.int .i64 a, .int .i64 b] 34)).alloc (.cells #[.int .i64 c, .int .i64 d] 34)) w.heap.size #[.int .i64 a, .int .i64 b] 34 := (Bk.new _ _ rfl).alloc _
  have bt : Bk ((w.alloc (.cells #[.int .i64 a, .int .i64 b] 34)).alloc (.cells #[.int .i64 c, .int .i64 d] 34)) (w.heap.size + 1) #[.int .i64 c, .int .i64 d] 34 := Bk.new _ _ (by simp)
  have hbw : Below w.heap.size w ((w.alloc (.cells #[.int .i64 a, .int .i64 b] 34)).alloc (.cells #[.int .i64 c, .int .i64 d] 34)) := bAlloc (bAlloc (Below.refl _ _) _) _
  go_enter Try.func9, Try.ntmps9
  go_wp2_with fail
  generalize ((w.alloc (.cells #[.int .i64 a, .int .i64 b] 34)).alloc (.cells #[.int .i64 c, .int .i64 d] 34)) = W at *
  obtain ⟨s0, s1, _, _⟩ := bs.two
  obtain ⟨t0, t1, _, _⟩ := bt.two
  have ls := bs.lt
  have lt := bt.lt
  go_cut [5] (fun p wc => ∃ g : Nat, p = .pointer (some ⟨g, 0, none⟩) ∧ W.heap.size ≤ g ∧ Bk wc g #[.int .i64 (jnA a b c d), .int .i64 (jnB a b c d)] 24 ∧ Below W.heap.size W wc)
  case first =>
    go_region_held3 (fun w' => w'.cell? ⟨w.heap.size, 0, none⟩ = some (.int .i64 a) ∧ w'.cell? ⟨w.heap.size, 1, none⟩ = some (.int .i64 b) ∧ w'.cell? ⟨w.heap.size + 1, 0, none⟩ = some (.int .i64 c) ∧ w'.cell? ⟨w.heap.size + 1, 1, none⟩ = some (.int .i64 d)) (refine ⟨?_, ?_, ?_, ?_⟩ <;> repeat' (first | with_reducible assumption | with_reducible refine cell_drew ?_ | with_reducible refine cell_alloc ?_ | with_reducible refine cell_below (by with_reducible assumption) ?_ | with_reducible refine cell_apart ?_ ?_ | omega | (simp; done) | (simp; omega))) (first | (go_at_call 23; refine (toTime_any _ _ _).mono ?_; rintro e w' ⟨rfl, hb⟩; have hz := hb.size; (try simp only [World.size_drew] at hz); (try simp only [World.size_alloc] at hz); (first | (with_reducible refine newfd_k hb ?_; intro _ _ _ _ _) | (with_reducible refine newf_k hb ?_; intro _ _ _ _ _) | (with_reducible refine oldf_k hb (by with_reducible assumption) (by with_reducible assumption) (by with_reducible assumption) (by with_reducible assumption) (by with_reducible assumption) ?_; intro _ _ _ _ _) | skip)) | (go_at_call 13; refine (specJoin_any _ _ _ _ _).mono ?_; rintro e w' ⟨rfl, hb⟩; have hz := hb.size; (try simp only [World.size_drew] at hz); (try simp only [World.size_alloc] at hz); (first | (with_reducible refine newfd_k hb ?_; intro _ _ _ _ _) | (with_reducible refine newf_k hb ?_; intro _ _ _ _ _) | (with_reducible refine oldf_k hb (by with_reducible assumption) (by with_reducible assumption) (by with_reducible assumption) (by with_reducible assumption) (by with_reducible assumption) ?_; intro _ _ _ _ _) | skip)))
    all_goals
      go_wp2_with fail
      go_meet
      case rel =>
        refine ⟨_, rfl, ?_, ?_, ?_⟩
        · first | omega | (simp; done) | (simp; omega)
        · repeat' (first | (with_reducible refine Bk.drew ?_) | (with_reducible refine Bk.drewN ?_ _) | (with_reducible refine Bk.new _ _ ?_; (first | with_reducible rfl | omega | (simp; done) | (simp; omega))) | (with_reducible refine Bk.alloc ?_ _) | (with_reducible refine Bk2.set01 ?_ _ _) | (with_reducible refine Bk2.drew ?_) | (with_reducible refine Bk2.new _ _ _ ?_; (first | with_reducible rfl | omega | (simp; done) | (simp; omega))) | (with_reducible refine Bk2.alloc ?_ _) | (with_reducible refine Bk2.keep ?_ (by with_reducible assumption)) | (with_reducible refine Bk.keep ?_ (by with_reducible assumption)))
        · repeat' (first | (with_reducible exact Below.refl _ _) | (with_reducible assumption) | (with_reducible refine bStep ?_ (by with_reducible assumption)) | (with_reducible refine bAlloc ?_ _) | (with_reducible refine Below.drew ?_) | (with_reducible refine bDrewN ?_ _) | (with_reducible refine Below.setCell ?_ ?_ _) | (simp; done) | (simp; omega) | omega)
  case rest =>
    obtain ⟨g, rfl, hg, bg, hbc⟩ := hcut
    have bs2 := bs.keep hbc
    have bt2 := bt.keep hbc
    obtain ⟨x0, x1, _, _⟩ := bs2.two
    obtain ⟨y0, y1, _, _⟩ := bt2.two
    have ls2 := bs2.lt
    have lt2 := bt2.lt
    go_wp2_with fail
    go_cut [6] (fun p wd => ∃ h : Nat, p = .pointer (some ⟨h, 0, none⟩) ∧ wc.heap.size ≤ h ∧ Bk wd h #[.int .i64 (jnA a b c d), .int .i64 (jnB a b c d)] 24 ∧ Below wc.heap.size wc wd)
    case first =>
      go_region_held3 (fun w' => w'.cell? ⟨w.heap.size, 0, none⟩ = some (.int .i64 a) ∧ w'.cell? ⟨w.heap.size, 1, none⟩ = some (.int .i64 b) ∧ w'.cell? ⟨w.heap.size + 1, 0, none⟩ = some (.int .i64 c) ∧ w'.cell? ⟨w.heap.size + 1, 1, none⟩ = some (.int .i64 d)) (refine ⟨?_, ?_, ?_, ?_⟩ <;> repeat' (first | with_reducible assumption | with_reducible refine cell_drew ?_ | with_reducible refine cell_alloc ?_ | with_reducible refine cell_below (by with_reducible assumption) ?_ | with_reducible refine cell_apart ?_ ?_ | omega | (simp; done) | (simp; omega))) (first | (go_at_call 23; refine (toTime_any _ _ _).mono ?_; rintro e w' ⟨rfl, hb⟩; have hz := hb.size; (try simp only [World.size_drew] at hz); (try simp only [World.size_alloc] at hz); (first | (with_reducible refine newfd_k hb ?_; intro _ _ _ _ _) | (with_reducible refine newf_k hb ?_; intro _ _ _ _ _) | (with_reducible refine oldf_k hb (by with_reducible assumption) (by with_reducible assumption) (by with_reducible assumption) (by with_reducible assumption) (by with_reducible assumption) ?_; intro _ _ _ _ _) | skip)) | (go_at_call 12; refine (implJoin_any _ _ _ _ _).mono ?_; rintro e w' ⟨rfl, hb⟩; have hz := hb.size; (try simp only [World.size_drew] at hz); (try simp only [World.size_alloc] at hz); (first | (with_reducible refine newfd_k hb ?_; intro _ _ _ _ _) | (with_reducible refine newf_k hb ?_; intro _ _ _ _ _) | (with_reducible refine oldf_k hb (by with_reducible assumption) (by with_reducible assumption) (by with_reducible assumption) (by with_reducible assumption) (by with_reducible assumption) ?_; intro _ _ _ _ _) | skip)))
      all_goals
        go_wp2_with fail
        go_meet
        case rel =>
          refine ⟨_, rfl, ?_, ?_, ?_⟩
          · first | omega | (simp; done) | (simp; omega)
          · repeat' (first | (with_reducible refine Bk.drew ?_) | (with_reducible refine Bk.drewN ?_ _) | (with_reducible refine Bk.new _ _ ?_; (first | with_reducible rfl | omega | (simp; done) | (simp; omega))) | (with_reducible refine Bk.alloc ?_ _) | (with_reducible refine Bk2.set01 ?_ _ _) | (with_reducible refine Bk2.drew ?_) | (with_reducible refine Bk2.new _ _ _ ?_; (first | with_reducible rfl | omega | (simp; done) | (simp; omega))) | (with_reducible refine Bk2.alloc ?_ _) | (with_reducible refine Bk2.keep ?_ (by with_reducible assumption)) | (with_reducible refine Bk.keep ?_ (by with_reducible assumption)))
          · repeat' (first | (with_reducible exact Below.refl _ _) | (with_reducible assumption) | (with_reducible refine bStep ?_ (by with_reducible assumption)) | (with_reducible refine bAlloc ?_ _) | (with_reducible refine Below.drew ?_) | (with_reducible refine bDrewN ?_ _) | (with_reducible refine Below.setCell ?_ ?_ _) | (simp; done) | (simp; omega) | omega)
    case rest =>
      obtain ⟨h, rfl, hh, bh, hbd⟩ := hcut
      have bg2 := bg.keep hbd
      obtain ⟨g0, g1, _, _⟩ := bg2.two
      obtain ⟨h0, h1, _, _⟩ := bh.two
      go_wp2_with fail
      refine (eqTime_any _ _ _ _ _).mono ?_
      rintro e we ⟨rfl, hbe⟩
      rw [eqB_self]
      go_wp2_with fail
      go_ret
      refine ⟨rfl, ?_⟩
      repeat' (first | (with_reducible exact Below.refl _ _) | (with_reducible assumption) | (with_reducible refine bStep ?_ (by with_reducible assumption)) | (with_reducible refine bAlloc ?_ _) | (with_reducible refine Below.drew ?_) | (with_reducible refine bDrewN ?_ _) | (with_reducible refine Below.setCell ?_ ?_ _) | (simp; done) | (simp; omega) | omega)
end FnExactTimeJoin
namespace RowFnExactTimeJoin
theorem own : ownKnob Try.prog.godebug = none := by kernel_rfl
theorem laidOut : laidOutB Try.prog = true := by kernel_rfl
theorem cellsT : Try.prog.cellsOf 34 = 2 := by kernel_rfl
set_option maxRecDepth 100000 in
theorem lifted (os : Os) (started : os.Started) (H : Type) (enc : TypeId × Value → H) :
    ReturnsInHanded {} Try.checked os 9 .any (Rows.fnExactTimeJoinSpec.pre6 enc Try.prog Try.f9 Rows.fnExactTimeJoinRow.domain false) (Rows.fnExactTimeJoinSpec.post enc Try.prog Try.f9 false true false false) := by
  refine returnsInHanded_of_change (C := Try.checked) own started (by kernel_rfl) Try.func9
    (ChangeSpec.witness6 (enc := enc) (C := Try.checked) false ⟨#[], #[.agg #[.int .i64 0, .int .i64 0], .agg #[.int .i64 0, .int .i64 0]], []⟩ 8 (by kernel_rfl) (by kernel_rfl) (by kernel_rfl) (by kernel_rfl)) ?_
  intro W base args ds gs before hval0 hW hcnd _
  have hval : ∀ (j : Nat) t v, Try.f9.params[j]? = some t → args[j]? = some v → Value.okWide Try.prog W .any base t v := hval0
  have hW' := hW
  obtain ⟨p, q, hA0, hV, rfl, hfz, hnd⟩ := hW
  have hA : DataW.TrodAll enc Try.prog W 0 (fun _ => true) true Try.f9.params.toList args.toList ds p := hA0
  rw [Try.params9] at hA hval
  obtain ⟨v0, vs0, d0, ds0, p0, q0, hargs, rfl, rfl, h0, r0⟩ := trodAll_cons hA
  obtain ⟨v1, vs1, d1, ds1, p1, q1, rfl, rfl, rfl, h1, r1⟩ := trodAll_cons r0
  obtain ⟨rfl, rfl, rfl⟩ := trodAll_nil r1
  obtain rfl : args = #[v0, v1] := by cases args; simp_all
  obtain ⟨rfl, rfl⟩ := trodVars_none hV
  have k0 := h0
  have lt0 : ∀ x ∈ p0, x.block < W.heap.size := by obtain ⟨m, hm⟩ := k0; exact DataW.trod_lt m _ _ _ hm
  obtain ⟨a0, b0, rfl⟩ : ∃ a b : Int, v0 = tv a b := by
    obtain ⟨c0, c1, y0, y1, m, rfl, _, _, hy0, hy1⟩ := open_agg2 Try.underlying34 (by kernel_rfl) cellsT (hval 0 34 v0 rfl rfl) h0
    obtain ⟨a, e0, _, _⟩ := DataW.trod_int Try.underlying3 hy0
    obtain ⟨b, e1, _, _⟩ := DataW.trod_int Try.underlying3 hy1
    simp at e0 e1
    exact ⟨a, b, by rw [e0, e1]⟩
  have k1 := h1
  have lt1 : ∀ x ∈ p1, x.block < W.heap.size := by obtain ⟨m, hm⟩ := k1; exact DataW.trod_lt m _ _ _ hm
  obtain ⟨a1, b1, rfl⟩ : ∃ a b : Int, v1 = tv a b := by
    obtain ⟨c0, c1, y0, y1, m, rfl, _, _, hy0, hy1⟩ := open_agg2 Try.underlying34 (by kernel_rfl) cellsT (hval 1 34 v1 rfl rfl) h1
    obtain ⟨a, e0, _, _⟩ := DataW.trod_int Try.underlying3 hy0
    obtain ⟨b, e1, _, _⟩ := DataW.trod_int Try.underlying3 hy1
    simp at e0 e1
    exact ⟨a, b, by rw [e0, e1]⟩
  clear hA0 hval0
  refine (FnExactTimeJoin.walk a0 b0 a1 b1 W).mono fun e W' ⟨he, bel⟩ => ?_
  subst he
  exact ⟨_, rfl, _, _, _, [], _, [], hW', trodAll_mk1 (shut_bool Try.underlying4 _), (trodAll_cons_mk (Below.trod laidOut (by kernel_rfl) (of_decide_eq_true (by kernel_rfl)) k0 bel lt0) (trodAll_cons_mk (Below.trod laidOut (by kernel_rfl) (of_decide_eq_true (by kernel_rfl)) k1 bel lt1) trodAll_mk0)), rfl, bel.frame _, fun h => by cases h⟩
theorem over : Rows.fnExactTimeJoinRow.holds Try.pinned (OpenSpec.ofChange Rows.fnExactTimeJoinSpec) :=
  OpenClaim.holds_of_wide 9 Try.f9 rfl rfl rfl rfl rfl rfl rfl ⟨rfl, rfl, rfl, rfl, rfl⟩ rfl rfl rfl rfl rfl (by kernel_rfl) Try.func9 (by kernel_rfl)
    (of_decide_eq_true (by kernel_rfl)) (by unfold Func.isWrapper; first | (rw [if_pos (by decide +kernel)]; kernel_rfl) | (rw [if_neg (by decide +kernel)]; exact ⟨rfl, rfl⟩))
    (fun os started H enc _ => lifted os started H enc)
end RowFnExactTimeJoin
theorem fnExactTimeJoin_holds : Rows.FnExactTimeJoinSaid := RowFnExactTimeJoin.over
end Go.Proofs.Ytakkgcmkefhmjaa
