/- For every spine, whatever its rows and times, SpineOk of the program answers as SpineOk of the model (a spine of more than 1048576 layers, rows and times together is passed by, as the law says), the spine is left as it was, and the argument reads afterwards as before. No condition. -/
import Derived.Test.YtdbhgocaelmanaaPf
import Derived.Test.YtdbhgocaelmanaaZe1
import Derived.Test.YtdbhgocaelmanaaZs1
import Derived.Deep.RegionHeld3
namespace Go.Proofs.Ytdbhgocaelmanaa
open Go.ChangeShapes Go.WideShapes Go.ChangeAt Go.RowKit Go.Joins

namespace FnExactSpineOk
theorem implOk_eq {L : List (List Rw)} {F : List (Int × Int)} {r : Bool} (e : spokB L F = r) {lv fv : Value} {w : World} (h : Spn w lv fv L F) :
    Calls Try.prog 23 #[spv lv fv] w fun e w' => e = .returned (.bool r) ∧ Below w.heap.size w w' := by
  rw [← e]; exact implSpineOk_any lv fv L F w h
theorem specOk_eq {L : List (List Rw)} {F : List (Int × Int)} {r : Bool} (e : spokB L F = r) {lv fv : Value} {w : World} (h : Spn w lv fv L F) :
    Calls Try.prog 27 #[spv lv fv] w fun e w' => e = .returned (.bool r) ∧ Below w.heap.size w w' := by
  rw [← e]; exact specSpineOk_any lv fv L F w h
set_option maxRecDepth 100000 in
set_option maxHeartbeats 8000000 in
theorem walk (a : Option Addr) (len cap : Nat) (ns : Nat → Nat) (b : Option Addr) (lem cbp : Nat) (w : World) (h0 : LsArg w a len cap ns) (h1 : TsArg w b lem cbp) :
    Calls Try.prog 7 #[spv (.slice a len cap) (.slice b lem cbp)] w fun e w' => e = .returned (.bool true) ∧ Below w.heap.size w w' := by
  have bt0 : Bk (w.alloc (.cells #[.slice a len cap, .slice b lem cbp] 52)) w.heap.size #[.slice a len cap, .slice b lem cbp] 52 := Bk.new _ _ rfl
  have hb0 : Below w.heap.size w (w.alloc (.cells #[.slice a len cap, .slice b lem cbp] 52)) := bAlloc (Below.refl _ _) _
  obtain ⟨s0, s1, _, _⟩ := bt0.two
  have A0 := (show Hid (LsArg w a len cap ns) from h0)
  have A1 := (show Hid (TsArg w b lem cbp) from h1)
  clear h0 h1
  by_cases hbig : (1048576 : Int) < ((len + sumN ns len + lem : Nat) : Int)
  · have HV : Hid (szV 1048576 (len + sumN ns len + lem) = -1) := if_pos hbig
    go_enter Try.func7, Try.ntmps7
    go_wp2_with fail
    refine (szSpine_any a len cap ns b lem cbp 1048576 _ (A0.out.keep hb0) (A1.out.keep hb0) (by omega) (by omega)).mono ?_
    rw [HV.out]
    rintro e w1 ⟨rfl, hb1⟩
    go_wp2_with fail
    go_ret
    exact ⟨rfl, bStep hb0 hb1⟩
  have HV : Hid (szV 1048576 (len + sumN ns len + lem) = 1048576 - ((len + sumN ns len + lem : Nat) : Int)) := if_neg hbig
  obtain ⟨L, rfl, hLy, hfl⟩ := A0.out.ly (by omega)
  obtain ⟨F, rfl, hTs⟩ := A1.out.ts (by omega)
  have HS : Hid (Spn w (.slice a L.length cap) (.slice b F.length cbp) L F) := ⟨hLy, hTs⟩
  have hL1 : L.length ≤ 1048576 := by omega
  have hL2 : L.flatten.length ≤ 1048576 := by omega
  have hL3 : F.length ≤ 1048576 := by omega
  clear hLy hTs hfl
  generalize hZ : (1048576 : Int) - ((L.length + sumN ns L.length + F.length : Nat) : Int) = Z at *
  have hz0 : ¬ (Z < 0) := by omega
  cases hf : spokB L F
  all_goals
    go_enter Try.func7, Try.ntmps7
    go_wp2_with fail
    refine (szSpine_any a L.length cap ns b F.length cbp 1048576 _ (A0.out.keep hb0) (A1.out.keep hb0) (by omega) (by omega)).mono ?_
    rw [HV.out]
    rintro e w1 ⟨rfl, hb1⟩
    have hbw1 := bStep hb0 hb1
    have bt1 := bt0.keep hb1
    obtain ⟨r0, r1, _, _⟩ := bt1.two
    go_wp2_with fail
    refine (toSpine_any _ _ L F _ (HS.out.keep hbw1)).mono ?_
    rintro e w2 ⟨g2, f2, rfl, hm2, hb2⟩
    have hbw2 := bStep hbw1 hb2
    have bt2 := bt1.keep hb2
    have S2 := hm2.spn hL1 hL2 hL3
    go_wp2_with fail
    refine (specOk_eq hf S2).mono ?_
    rintro e w3 ⟨rfl, hb3⟩
    have hbw3 := bStep hbw2 hb3
    have bt3 := bt2.keep hb3
    obtain ⟨q0, q1, _, _⟩ := bt3.two
    clear s0 s1 r0 r1 bt1 bt2 hm2 S2
    go_wp2_with fail
    refine (toSpine_any _ _ L F _ (HS.out.keep hbw3)).mono ?_
    rintro e w4 ⟨g4, f4, rfl, hm4, hb4⟩
    have hbw4 := bStep hbw3 hb4
    have bn2 : Bk (w4.alloc (.cells #[(.slice (some ⟨g4, 0, none⟩) L.length L.length), (.slice (some ⟨f4, 0, none⟩) F.length F.length)] 26)) w4.heap.size #[(.slice (some ⟨g4, 0, none⟩) L.length L.length), (.slice (some ⟨f4, 0, none⟩) F.length F.length)] 26 := Bk.new _ _ rfl
    obtain ⟨x0, x1, _, _⟩ := bn2.two
    have HB5 : Below w4.heap.size w4 (w4.alloc (.cells #[(.slice (some ⟨g4, 0, none⟩) L.length L.length), (.slice (some ⟨f4, 0, none⟩) F.length F.length)] 26)) := bAlloc (Below.refl _ _) _
    have bt5 := (bt3.keep hb4).keep HB5
    have S5 := (hm4.keep HB5).spn hL1 hL2 hL3
    have hbw5 := bStep hbw4 HB5
    clear q0 q1 bt3 hm4 hbw4 hbw3 hb4 HB5 hbw2 hbw1 hb1 hb2 hb3
    go_wp2_with fail
    generalize (w4.alloc (.cells #[(.slice (some ⟨g4, 0, none⟩) L.length L.length), (.slice (some ⟨f4, 0, none⟩) F.length F.length)] 26)) = w5 at *
    refine (implOk_eq hf S5).mono ?_
    rintro e w6 ⟨rfl, hb6⟩
    have hbw6 := bStep hbw5 hb6
    have HX : Hid (∀ W, Below w6.heap.size w6 W → (W.cell? ⟨w.heap.size, 0, none⟩ = some (.slice a L.length cap) ∧ W.cell? ⟨w.heap.size, 1, none⟩ = some (.slice b F.length cbp)) ∧ W.cell? ⟨w4.heap.size, 0, none⟩ = some (.slice (some ⟨g4, 0, none⟩) L.length L.length) ∧ W.cell? ⟨w4.heap.size, 1, none⟩ = some (.slice (some ⟨f4, 0, none⟩) F.length F.length)) := fun W hW => ⟨⟨((bt5.keep hb6).keep hW).two.1, ((bt5.keep hb6).keep hW).two.2.1⟩, ((bn2.keep hb6).keep hW).two.1, ((bn2.keep hb6).keep hW).two.2.1⟩
    have HY : Hid (∀ W, Below w6.heap.size w6 W → Spn W (.slice (some ⟨g4, 0, none⟩) L.length L.length) (.slice (some ⟨f4, 0, none⟩) F.length F.length) L F) := fun W hW => (S5.keep hb6).keep hW
    have HSW : Hid (∀ W, Below w6.heap.size w6 W → Spn W (.slice a L.length cap) (.slice b F.length cbp) L F) := fun W hW => (HS.out.keep hbw6).keep hW
    obtain ⟨⟨k0, k1⟩, k2, k3⟩ := HX.out w6 (Below.refl _ _)
    have hcur : Below w6.heap.size w6 w6.drew := (Below.refl _ _).drew
    clear x0 x1 bn2 bt5 S5 hbw5 hb6
    go_wp2_with fail
    go_region_held3 (fun W => (W.cell? ⟨w.heap.size, 0, none⟩ = some (.slice a L.length cap) ∧ W.cell? ⟨w.heap.size, 1, none⟩ = some (.slice b F.length cbp)) ∧ W.cell? ⟨w4.heap.size, 0, none⟩ = some (.slice (some ⟨g4, 0, none⟩) L.length L.length) ∧ W.cell? ⟨w4.heap.size, 1, none⟩ = some (.slice (some ⟨f4, 0, none⟩) F.length F.length))
      (first | exact HX.out _ hcur | exact HX.out _ hcur2 | exact HX.out _ hcur3)
      (first
        | (go_at_call 30; with_reducible refine (toSpine_any _ _ L F _ (HSW.out _ hcur)).mono ?_; rintro e wc ⟨gc, fc, rfl, hmc, hbc⟩; have hcur2 : Below w6.heap.size w6 wc := bStep hcur hbc; have SC := hmc.spn hL1 hL2 hL3)
        | (go_at_call 31; with_reducible refine (eqSpine_same _ _ _ _ L F _ (HY.out _ hcur2) SC).mono ?_; rintro e wd ⟨rfl, hbd⟩; have hcur3 : Below w6.heap.size w6 wd := bStep hcur2 hbd))
    all_goals
      go_wp2_with fail
      go_ret
      exact ⟨rfl, bStep hbw6 hcur3⟩
end FnExactSpineOk
namespace RowFnExactSpineOk
theorem own : ownKnob Try.prog.godebug = none := by kernel_rfl
set_option maxRecDepth 100000 in
theorem lifted (os : Os) (started : os.Started) (H : Type) (enc : TypeId × Value → H) :
    ReturnsInHanded {} Try.checked os 7 .any (Rows.fnExactSpineOkSpec.pre6 enc Try.prog Try.f7 Rows.fnExactSpineOkRow.domain false) (Rows.fnExactSpineOkSpec.post enc Try.prog Try.f7 false true false false) := by
  refine returnsInHanded_of_change (C := Try.checked) own started (by kernel_rfl) Try.func7
    (ChangeSpec.witness6 (enc := enc) (C := Try.checked) false ⟨#[], #[.agg #[.slice none 0 0, .slice none 0 0]], []⟩ 8 (by kernel_rfl) (by kernel_rfl) (by kernel_rfl) (by kernel_rfl)) ?_
  intro W base args ds gs before hval0 hW hcnd _
  have hval : ∀ (j : Nat) t v, Try.f7.params[j]? = some t → args[j]? = some v → Value.okWide Try.prog W .any base t v := hval0
  have hW' := hW
  obtain ⟨p, q, hA0, hV, rfl, hfz, hnd⟩ := hW
  have hA : DataW.TrodAll enc Try.prog W 0 (fun _ => true) true Try.f7.params.toList args.toList ds p := hA0
  rw [Try.params7] at hA hval
  obtain ⟨v0, vs0, d0, ds0, p0, q0, hargs, rfl, rfl, h0, r0⟩ := trodAll_cons hA
  obtain ⟨rfl, rfl, rfl⟩ := trodAll_nil r0
  obtain rfl : args = #[v0] := by cases args; simp_all
  obtain ⟨rfl, rfl⟩ := trodVars_none hV
  have k0 := h0
  have lt0 : ∀ x ∈ p0, x.block < W.heap.size := by obtain ⟨m, hm⟩ := k0; exact DataW.trod_lt m _ _ _ hm
  obtain ⟨a0, len0, cap0, ns0, b0, lem0, cbp0, rfl, w0, u0⟩ := SpArg.of_trod (hval 0 52 v0 rfl rfl) h0
  clear hA0 hval0
  refine (FnExactSpineOk.walk a0 len0 cap0 ns0 b0 lem0 cbp0 W w0 u0).mono fun e W' ⟨he, bel⟩ => ?_
  subst he
  exact ⟨_, rfl, _, _, _, [], _, [], hW', trodAll_mk1 (shut_bool Try.underlying4 _), (trodAll_cons_mk (Below.trod pfLaid (by kernel_rfl) (of_decide_eq_true (by kernel_rfl)) k0 bel lt0) trodAll_mk0), rfl, bel.frame _, fun h => by cases h⟩
set_option maxHeartbeats 4000000 in
theorem closed : joinedFacts Try.prog 7 Try.f7 Rows.fnExactSpineOkSpec Rows.fnExactSpineOkRow = true := by
  unfold joinedFacts
  exact (andB (andB (andB (andB (andB (andB (andB (andB (andB (andB (andB (andB (andB (andB (andB (andB (andB (andB (andB (andB (andB (andB (andB (andB (andB (andB (andB (andB (andB (andB (andB (by as_aux_lemma => kernel_rfl) pfLaid) pfRowed) (by as_aux_lemma => kernel_rfl)) (by as_aux_lemma => kernel_rfl)) (by as_aux_lemma => kernel_rfl)) (by as_aux_lemma => kernel_rfl)) (by as_aux_lemma => kernel_rfl)) (by as_aux_lemma => kernel_rfl)) (by as_aux_lemma => kernel_rfl)) (by as_aux_lemma => kernel_rfl)) (by as_aux_lemma => kernel_rfl)) (by as_aux_lemma => kernel_rfl)) (by as_aux_lemma => kernel_rfl)) (by as_aux_lemma => kernel_rfl)) (by as_aux_lemma => kernel_rfl)) (by as_aux_lemma => kernel_rfl)) (by as_aux_lemma => kernel_rfl)) (by as_aux_lemma => kernel_rfl)) (by as_aux_lemma => kernel_rfl)) (by as_aux_lemma => kernel_rfl)) (by as_aux_lemma => kernel_rfl)) (by as_aux_lemma => kernel_rfl)) (by as_aux_lemma => kernel_rfl)) pfHeard) pfEnter) (pfLiftB rfl)) (pfMakeB rfl)) (by as_aux_lemma => kernel_rfl)) (by as_aux_lemma => kernel_rfl)) (by as_aux_lemma => kernel_rfl)) (by as_aux_lemma => kernel_rfl))
theorem over : Rows.fnExactSpineOkRow.holds Try.pinned (OpenSpec.ofChange Rows.fnExactSpineOkSpec) :=
  OpenClaim.holds_of_wide 7 Try.f7 rfl rfl rfl rfl rfl rfl rfl ⟨rfl, rfl, rfl, rfl, rfl⟩ rfl rfl rfl rfl rfl (by kernel_rfl) Try.func7 closed
    (of_decide_eq_true (by kernel_rfl)) (by unfold Func.isWrapper; first | (rw [if_pos (by decide +kernel)]; kernel_rfl) | (rw [if_neg (by decide +kernel)]; exact ⟨rfl, rfl⟩))
    (fun os started H enc _ => lifted os started H enc)
end RowFnExactSpineOk
theorem fnExactSpineOk_holds : Rows.FnExactSpineOkSaid := RowFnExactSpineOk.over
end Go.Proofs.Ytdbhgocaelmanaa
