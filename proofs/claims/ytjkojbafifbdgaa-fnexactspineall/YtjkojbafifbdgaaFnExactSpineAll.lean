/- For every spine, whatever its rows and times, SpineAll of the program answers as SpineAll of the model (a spine of more than 1048576 layers, rows and times together is passed by, as the law says), the spine is left as it was, the answer keeps nothing of it and owns its memory, behind another call too, and the argument reads afterwards as before. No condition. -/
import Derived.Test.YtjkojbafifbdgaaPf
import Derived.Test.YtjkojbafifbdgaaZe2
import Derived.Test.YtjkojbafifbdgaaZs3
import Derived.Deep.RegionHeld3
namespace Go.Proofs.Ytjkojbafifbdgaa
open Go.ChangeShapes Go.WideShapes Go.ChangeAt Go.RowKit Go.Joins

namespace FnExactSpineAll
set_option maxRecDepth 100000 in
set_option maxHeartbeats 16000000 in
theorem walk (a : Option Addr) (len cap : Nat) (ns : Nat → Nat) (b : Option Addr) (lem cbp : Nat) (w : World) (h0 : LsArg w a len cap ns) (h1 : TsArg w b lem cbp) :
    Calls Try.prog 8 #[spv (.slice a len cap) (.slice b lem cbp)] w fun e w' => e = .returned (.bool true) ∧ Below w.heap.size w w' := by
  have bt0 : Bk (w.alloc (.cells #[.slice a len cap, .slice b lem cbp] 63)) w.heap.size #[.slice a len cap, .slice b lem cbp] 63 := Bk.new _ _ rfl
  have hb0 : Below w.heap.size w (w.alloc (.cells #[.slice a len cap, .slice b lem cbp] 63)) := bAlloc (Below.refl _ _) _
  obtain ⟨s0, s1, _, _⟩ := bt0.two
  have A0 := (show Hid (LsArg w a len cap ns) from h0)
  have A1 := (show Hid (TsArg w b lem cbp) from h1)
  clear h0 h1
  by_cases hbig : (1048576 : Int) < ((len + sumN ns len + lem : Nat) : Int)
  · have HV : Hid (szV 1048576 (len + sumN ns len + lem) = -1) := if_pos hbig
    go_enter Try.func8, Try.ntmps8
    go_wp2_with fail
    refine (szSpine_any a len cap ns b lem cbp 1048576 _ (A0.out.keep hb0) (A1.out.keep hb0) (by omega) (by omega)).mono ?_
    rw [HV.out]
    rintro e w1 ⟨rfl, hb1⟩
    go_wp2_with fail
    go_ret
    exact ⟨rfl, bStep hb0 hb1⟩
  have HV : Hid (szV 1048576 (len + sumN ns len + lem) = 1048576 - ((len + sumN ns len + lem : Nat) : Int)) := if_neg hbig
  obtain ⟨L, rfl, hLy, hfl⟩ := A0.out.ly (by omega)
  obtain ⟨F, rfl, hTs⟩ := A1.out.ts (by omega)
  have HS : Hid (Spn w (.slice a L.length cap) (.slice b F.length cbp) L F) := ⟨hLy, hTs⟩
  have hL1 : L.length ≤ 1048576 := by omega
  have hL2 : L.flatten.length ≤ 1048576 := by omega
  have hL3 : F.length ≤ 1048576 := by omega
  have hRl := sall_len L F
  have hkn : decide ((1 : Int) + 5 * (L.flatten.length : Int) + 2 * (F.length : Int) < 0) = false := by simp; omega
  clear hLy hTs hfl
  generalize hZ : (1048576 : Int) - ((L.length + sumN ns L.length + F.length : Nat) : Int) = Z at *
  have hz0 : ¬ (Z < 0) := by omega
  go_enter Try.func8, Try.ntmps8
  go_wp2_with fail
  refine (szSpine_any a L.length cap ns b F.length cbp 1048576 _ (A0.out.keep hb0) (A1.out.keep hb0) (by omega) (by omega)).mono ?_
  rw [HV.out]
  rintro e w1 ⟨rfl, hb1⟩
  have hbw1 := bStep hb0 hb1
  have bt1 := bt0.keep hb1
  obtain ⟨r0, r1, _, _⟩ := bt1.two
  go_wp2_with fail
  refine (toSpine_any _ _ L F _ (HS.out.keep hbw1)).mono ?_
  rintro e w2 ⟨g2, f2, rfl, hm2, hb2⟩
  have hbw2 := bStep hbw1 hb2
  have bt2 := bt1.keep hb2
  have S2 := hm2.spn hL1 hL2 hL3
  go_wp2_with fail
  refine (specSpineAll_any _ _ L F _ S2).mono ?_
  rintro e w3 ⟨o3, rfl, own3, hb3⟩
  have hbw3 := bStep hbw2 hb3
  have bt3 := bt2.keep hb3
  obtain ⟨q0, q1, _, _⟩ := bt3.two
  have OS3 : Hid (OwnR w3 w2.heap.size o3 (sallL L F)) := own3
  have SL := (show Hid _ from ownK_lt own3)
  have hs3 := hbw3.size
  have hlt3 : w.heap.size < w3.heap.size := bt3.lt
  clear s0 s1 r0 r1 bt1 bt2 hm2 S2 own3
  go_wp2_with fail
  refine (toSpine_any _ _ L F _ (HS.out.keep hbw3)).mono ?_
  rintro e w4 ⟨g4, f4, rfl, hm4, hb4⟩
  have hbw4 := bStep hbw3 hb4
  have hs4 := hb4.size
  have bn2 : Bk (w4.alloc (.cells #[(.slice (some ⟨g4, 0, none⟩) L.length L.length), (.slice (some ⟨f4, 0, none⟩) F.length F.length)] 54)) w4.heap.size #[(.slice (some ⟨g4, 0, none⟩) L.length L.length), (.slice (some ⟨f4, 0, none⟩) F.length F.length)] 54 := Bk.new _ _ rfl
  obtain ⟨x0, x1, _, _⟩ := bn2.two
  have HB5 : Below w4.heap.size w4 (w4.alloc (.cells #[(.slice (some ⟨g4, 0, none⟩) L.length L.length), (.slice (some ⟨f4, 0, none⟩) F.length F.length)] 54)) := bAlloc (Below.refl _ _) _
  have bt5 := (bt3.keep hb4).keep HB5
  have M5 : Hid (SpM (w4.alloc (.cells #[(.slice (some ⟨g4, 0, none⟩) L.length L.length), (.slice (some ⟨f4, 0, none⟩) F.length F.length)] 54)) w3.heap.size g4 f4 L F) := hm4.keep HB5
  have hf4 : f4 < w4.heap.size := by obtain ⟨_, _, _, _, _, _, _, _, _, hk, _⟩ := hm4; exact hk.lt
  have S5 := SpM.spn M5.out hL1 hL2 hL3
  have hbw5 := bStep hbw4 HB5
  have hs5 := HB5.size
  have OS5 : Hid (OwnR (w4.alloc (.cells #[(.slice (some ⟨g4, 0, none⟩) L.length L.length), (.slice (some ⟨f4, 0, none⟩) F.length F.length)] 54)) w2.heap.size o3 (sallL L F)) := own_keep (own_keep OS3.out hb4) HB5
  clear q0 q1 bt3 hm4 hbw4 hbw3 hb4 HB5 hbw2 hbw1 hb1 hb2 hb3 OS3
  go_wp2_with fail
  generalize (w4.alloc (.cells #[(.slice (some ⟨g4, 0, none⟩) L.length L.length), (.slice (some ⟨f4, 0, none⟩) F.length F.length)] 54)) = w5 at *
  refine (implSpineAll_any _ _ L F _ S5).mono ?_
  rintro e w6 ⟨o6, rfl, own6, hb6⟩
  have hbw6 := bStep hbw5 hb6
  have hs6 := hb6.size
  have bt6 := bt5.keep hb6
  have bx6 := bn2.keep hb6
  have OS6 : Hid (OwnR w6 w2.heap.size o3 (sallL L F)) := own_keep OS5.out hb6
  have OG6 : Hid (OwnR w6 w5.heap.size o6 (sallL L F)) := own6
  have GB := (show Hid _ from ownK_base own6)
  have M6 : Hid (SpM w6 w3.heap.size g4 f4 L F) := SpM.keep M5.out hb6
  clear x0 x1 bn2 bt5 S5 hbw5 hb6 own6 OS5 M5
  go_wp2_with fail
  refine (eqRowS_same _ _ _ _ (OwnR.rs OG6.out (by omega)) (OwnR.rs OS6.out (by omega))).mono ?_
  rintro e w7 ⟨rfl, hb7⟩
  have hbw7 := bStep hbw6 hb7
  have hs7 := hb7.size
  have bt7 := bt6.keep hb7
  have bx7 := bx6.keep hb7
  have OS7 : Hid (OwnR w7 w2.heap.size o3 (sallL L F)) := own_keep OS6.out hb7
  have OG7 : Hid (OwnR w7 w5.heap.size o6 (sallL L F)) := own_keep OG6.out hb7
  have M7 : Hid (SpM w7 w3.heap.size g4 f4 L F) := SpM.keep M6.out hb7
  have HX : Hid (∀ W, Below w7.heap.size w7 W → (W.cell? ⟨w.heap.size, 0, none⟩ = some (.slice a L.length cap) ∧ W.cell? ⟨w.heap.size, 1, none⟩ = some (.slice b F.length cbp)) ∧ W.cell? ⟨w4.heap.size, 0, none⟩ = some (.slice (some ⟨g4, 0, none⟩) L.length L.length) ∧ W.cell? ⟨w4.heap.size, 1, none⟩ = some (.slice (some ⟨f4, 0, none⟩) F.length F.length)) := fun W hW => ⟨⟨(bt7.keep hW).two.1, (bt7.keep hW).two.2.1⟩, (bx7.keep hW).two.1, (bx7.keep hW).two.2.1⟩
  have HY : Hid (∀ W, Below w7.heap.size w7 W → Spn W (.slice (some ⟨g4, 0, none⟩) L.length L.length) (.slice (some ⟨f4, 0, none⟩) F.length F.length) L F) := fun W hW => SpM.spn (SpM.keep M7.out hW) hL1 hL2 hL3
  have HSW : Hid (∀ W, Below w7.heap.size w7 W → Spn W (.slice a L.length cap) (.slice b F.length cbp) L F) := fun W hW => (HS.out.keep hbw7).keep hW
  obtain ⟨⟨k0, k1⟩, k2, k3⟩ := HX.out w7 (Below.refl _ _)
  have hcur : Below w7.heap.size w7 w7.drew := (Below.refl _ _).drew
  clear bt6 bx6 hb7 M6 OS6 OG6
  go_wp2_with fail
  go_region_held3 (fun W => (W.cell? ⟨w.heap.size, 0, none⟩ = some (.slice a L.length cap) ∧ W.cell? ⟨w.heap.size, 1, none⟩ = some (.slice b F.length cbp)) ∧ W.cell? ⟨w4.heap.size, 0, none⟩ = some (.slice (some ⟨g4, 0, none⟩) L.length L.length) ∧ W.cell? ⟨w4.heap.size, 1, none⟩ = some (.slice (some ⟨f4, 0, none⟩) F.length F.length))
    (first | exact HX.out _ hcur | exact HX.out _ hcur2 | exact HX.out _ hcur3)
    (first
      | (go_at_call 41; with_reducible refine (toSpine_any _ _ L F _ (HSW.out _ hcur)).mono ?_; rintro e wc ⟨gc, fc, rfl, hmc, hbc⟩; have hcur2 : Below w7.heap.size w7 wc := bStep hcur hbc; have SC := hmc.spn hL1 hL2 hL3)
      | (go_at_call 42; with_reducible refine (eqSpine_same _ _ _ _ L F _ (HY.out _ hcur2) SC).mono ?_; rintro e w8 ⟨rfl, hbd⟩; have hcur3 : Below w7.heap.size w7 w8 := bStep hcur2 hbd))
  all_goals
    obtain ⟨⟨j0, j1⟩, j2, j3⟩ := HX.out w8 hcur3
    have hbw8 := bStep hbw7 hcur3
    have hs8 := hcur3.size
    have bt8 := bt7.keep hcur3
    have OS8 : Hid (OwnR w8 w2.heap.size o3 (sallL L F)) := own_keep OS7.out hcur3
    have OG8 : Hid (OwnR w8 w5.heap.size o6 (sallL L F)) := own_keep OG7.out hcur3
    have M8 : SpM w8 w3.heap.size g4 f4 L F := SpM.keep M7.out hcur3
    clear k0 k1 k2 k3 HX HY HSW hcur hcur2 hcur3 hbd hbc hmc SC bt7 bx7 M7 OS7 OG7
    go_wp2_with fail
    refine (markSpine_any _ g4 f4 w4.heap.size L F 1 _ M8 hf4 (by omega) hL1 hL2 hL3 (by omega) (by omega)).mono ?_
    rintro e w9 ⟨rfl, hz9⟩
    have hbw9 := hz9.below hbw8 (by omega) (by omega)
    have OS9 : Hid (OwnR w9 w2.heap.size o3 (sallL L F)) := ownK_besides OS8.out hz9 (fun q e => by have := SL.out q e; omega)
    have OG9 : Hid (OwnR w9 w5.heap.size o6 (sallL L F)) := ownK_besides OG8.out hz9 (fun q e => by have := GB.out q e; omega)
    have hs9 := hz9.size
    have bt9 := bt8.keepz hz9 (by omega)
    clear j0 j1 j2 j3 bt8 OS8 OG8 M8 hz9
    go_wp2_with fail
    refine (eqRowS_same _ _ _ _ (OwnR.rs OG9.out (by omega)) (OwnR.rs OS9.out (by omega))).mono ?_
    rintro e w10 ⟨rfl, hb10⟩
    have hbw10 := bStep hbw9 hb10
    have hs10 := hb10.size
    have bt10 := bt9.keep hb10
    have OS10 : Hid (OwnR w10 w2.heap.size o3 (sallL L F)) := own_keep OS9.out hb10
    have OG10 : Hid (OwnR w10 w5.heap.size o6 (sallL L F)) := own_keep OG9.out hb10
    clear bt9 OS9 OG9 hb10
    go_wp2_with fail
    refine (markRO_any OG10.out (by omega) (by omega) 1 (by omega) (by omega)).mono ?_
    rintro e w11 ⟨rfl, om11, hb11⟩
    have hbw11 := hbw10.trans (hb11.mono (by omega))
    have hs11 := hb11.size
    have bt11 := bt10.under hb11 (by omega)
    have OS11 : Hid (OwnR w11 w2.heap.size o3 (sallL L F)) := ownK_under OS10.out hb11 (fun q e => by have := SL.out q e; omega)
    have OM11 : Hid (OwnR w11 w5.heap.size o6 (marksR 1 (sallL L F).length)) := om11
    clear om11 hb11 bt10 OS10 OG10
    have hqn : decide ((1 : Int) + 5 * ((sallL L F).length : Int) < 0) = false := by simp; omega
    go_wp2_with fail
    refine (heldR_any _ (sallL L F).length 1 _ (OwnR.rs OM11.out (by rw [marksR_len]; omega)) (by omega) (by omega)).mono ?_
    rintro e w12 ⟨rfl, hb12⟩
    have hbw12 := bStep hbw11 hb12
    have hs12 := hb12.size
    have bt12 := bt11.keep hb12
    obtain ⟨v0, v1, _, _⟩ := bt12.two
    have OS12 : Hid (OwnR w12 w2.heap.size o3 (sallL L F)) := own_keep OS11.out hb12
    have OM12 : Hid (OwnR w12 w5.heap.size o6 (marksR 1 (sallL L F).length)) := own_keep OM11.out hb12
    clear hb12 bt11 OS11 OM11
    go_wp2_with fail
    refine (toSpine_any _ _ L F _ (HS.out.keep hbw12)).mono ?_
    rintro e w13 ⟨g13, f13, rfl, hm13, hb13⟩
    have hbw13 := bStep hbw12 hb13
    have hs13 := hb13.size
    have S13 := hm13.spn hL1 hL2 hL3
    have OS13 : Hid (OwnR w13 w2.heap.size o3 (sallL L F)) := own_keep OS12.out hb13
    have OM13 : Hid (OwnR w13 w5.heap.size o6 (marksR 1 (sallL L F).length)) := own_keep OM12.out hb13
    clear hm13 hb13 OS12 OM12 v0 v1
    go_wp2_with fail
    refine (implSpineAll_any _ _ L F _ S13).mono ?_
    rintro e w14 ⟨o14, rfl, own14, hb14⟩
    have hbw14 := bStep hbw13 hb14
    have hs14 := hb14.size
    have OS14 : Hid (OwnR w14 w2.heap.size o3 (sallL L F)) := own_keep OS13.out hb14
    have OM14 : Hid (OwnR w14 w5.heap.size o6 (marksR 1 (sallL L F).length)) := own_keep OM13.out hb14
    have th := OwnR.rs own14 (by omega)
    clear own14 hb14 OS13 OM13 S13
    go_wp2_with fail
    refine (eqRowS_same _ _ _ _ th (OwnR.rs OS14.out (by omega))).mono ?_
    rintro e w15 ⟨rfl, hb15⟩
    have hbw15 := bStep hbw14 hb15
    have OM15 : Hid (OwnR w15 w5.heap.size o6 (marksR 1 (sallL L F).length)) := own_keep OM14.out hb15
    clear hb15 OS14 OM14 th
    go_wp2_with fail
    refine (heldR_any _ (sallL L F).length 1 _ (OwnR.rs OM15.out (by rw [marksR_len]; omega)) (by omega) (by omega)).mono ?_
    rintro e w16 ⟨rfl, hb16⟩
    have hbw16 := bStep hbw15 hb16
    go_wp2_with fail
    go_ret
    exact ⟨rfl, hbw16⟩
end FnExactSpineAll
namespace RowFnExactSpineAll
theorem own : ownKnob Try.prog.godebug = none := by kernel_rfl
set_option maxRecDepth 100000 in
theorem lifted (os : Os) (started : os.Started) (H : Type) (enc : TypeId × Value → H) :
    ReturnsInHanded {} Try.checked os 8 .any (Rows.fnExactSpineAllSpec.pre6 enc Try.prog Try.f8 Rows.fnExactSpineAllRow.domain false) (Rows.fnExactSpineAllSpec.post enc Try.prog Try.f8 false true false false) := by
  refine returnsInHanded_of_change (C := Try.checked) own started (by kernel_rfl) Try.func8
    (ChangeSpec.witness6 (enc := enc) (C := Try.checked) false ⟨#[], #[.agg #[.slice none 0 0, .slice none 0 0]], []⟩ 8 (by kernel_rfl) (by kernel_rfl) (by kernel_rfl) (by kernel_rfl)) ?_
  intro W base args ds gs before hval0 hW hcnd _
  have hval : ∀ (j : Nat) t v, Try.f8.params[j]? = some t → args[j]? = some v → Value.okWide Try.prog W .any base t v := hval0
  have hW' := hW
  obtain ⟨p, q, hA0, hV, rfl, hfz, hnd⟩ := hW
  have hA : DataW.TrodAll enc Try.prog W 0 (fun _ => true) true Try.f8.params.toList args.toList ds p := hA0
  rw [Try.params8] at hA hval
  obtain ⟨v0, vs0, d0, ds0, p0, q0, hargs, rfl, rfl, h0, r0⟩ := trodAll_cons hA
  obtain ⟨rfl, rfl, rfl⟩ := trodAll_nil r0
  obtain rfl : args = #[v0] := by cases args; simp_all
  obtain ⟨rfl, rfl⟩ := trodVars_none hV
  have k0 := h0
  have lt0 : ∀ x ∈ p0, x.block < W.heap.size := by obtain ⟨m, hm⟩ := k0; exact DataW.trod_lt m _ _ _ hm
  obtain ⟨a0, len0, cap0, ns0, b0, lem0, cbp0, rfl, w0, u0⟩ := SpArg.of_trod (hval 0 63 v0 rfl rfl) h0
  clear hA0 hval0
  refine (FnExactSpineAll.walk a0 len0 cap0 ns0 b0 lem0 cbp0 W w0 u0).mono fun e W' ⟨he, bel⟩ => ?_
  subst he
  exact ⟨_, rfl, _, _, _, [], _, [], hW', trodAll_mk1 (shut_bool Try.underlying4 _), (trodAll_cons_mk (Below.trod pfLaid (by kernel_rfl) (of_decide_eq_true (by kernel_rfl)) k0 bel lt0) trodAll_mk0), rfl, bel.frame _, fun h => by cases h⟩
set_option maxHeartbeats 4000000 in
theorem closed : joinedFacts Try.prog 8 Try.f8 Rows.fnExactSpineAllSpec Rows.fnExactSpineAllRow = true := by
  unfold joinedFacts
  exact (andB (andB (andB (andB (andB (andB (andB (andB (andB (andB (andB (andB (andB (andB (andB (andB (andB (andB (andB (andB (andB (andB (andB (andB (andB (andB (andB (andB (andB (andB (andB (by as_aux_lemma => kernel_rfl) pfLaid) pfRowed) (by as_aux_lemma => kernel_rfl)) (by as_aux_lemma => kernel_rfl)) (by as_aux_lemma => kernel_rfl)) (by as_aux_lemma => kernel_rfl)) (by as_aux_lemma => kernel_rfl)) (by as_aux_lemma => kernel_rfl)) (by as_aux_lemma => kernel_rfl)) (by as_aux_lemma => kernel_rfl)) (by as_aux_lemma => kernel_rfl)) (by as_aux_lemma => kernel_rfl)) (by as_aux_lemma => kernel_rfl)) (by as_aux_lemma => kernel_rfl)) (by as_aux_lemma => kernel_rfl)) (by as_aux_lemma => kernel_rfl)) (by as_aux_lemma => kernel_rfl)) (by as_aux_lemma => kernel_rfl)) (by as_aux_lemma => kernel_rfl)) (by as_aux_lemma => kernel_rfl)) (by as_aux_lemma => kernel_rfl)) (by as_aux_lemma => kernel_rfl)) (by as_aux_lemma => kernel_rfl)) pfHeard) pfEnter) (pfLiftB rfl)) (pfMakeB rfl)) (by as_aux_lemma => kernel_rfl)) (by as_aux_lemma => kernel_rfl)) (by as_aux_lemma => kernel_rfl)) (by as_aux_lemma => kernel_rfl))
theorem over : Rows.fnExactSpineAllRow.holds Try.pinned (OpenSpec.ofChange Rows.fnExactSpineAllSpec) :=
  OpenClaim.holds_of_wide 8 Try.f8 rfl rfl rfl rfl rfl rfl rfl ⟨rfl, rfl, rfl, rfl, rfl⟩ rfl rfl rfl rfl rfl (by kernel_rfl) Try.func8 closed
    (of_decide_eq_true (by kernel_rfl)) (by unfold Func.isWrapper; first | (rw [if_pos (by decide +kernel)]; kernel_rfl) | (rw [if_neg (by decide +kernel)]; exact ⟨rfl, rfl⟩))
    (fun os started H enc _ => lifted os started H enc)
end RowFnExactSpineAll
theorem fnExactSpineAll_holds : Rows.FnExactSpineAllSaid := RowFnExactSpineAll.over
end Go.Proofs.Ytjkojbafifbdgaa
