/- For every list of times, whatever their numbers, FrontOf of the program answers as FrontOf of the model (a list of more than 1048576 times is passed by, as the law says), the list is left as it was, the answer keeps nothing of the list and owns its memory, behind another call too, and the argument reads afterwards as before. No condition. -/
import Derived.Test.YtpmkhempkblokaaFr4
import Derived.Test.YtpmkhempkblokaaFr20
import Derived.Test.YtpmkhempkblokaaFr25
namespace Go.Proofs.Ytpmkhempkblokaa
open Go.ChangeShapes Go.WideShapes Go.ChangeAt Go.RowKit Go.Joins

namespace FnExactFrontOf
set_option maxHeartbeats 8000000 in
theorem walk (a : Option Addr) (len cap : Nat) (w : World) (h0 : TsArg w a len cap) :
    Calls Try.prog 12 #[.slice a len cap] w fun e w' => e = .returned (.bool true) ∧ Below w.heap.size w w' := by
  have hl := h0.1
  have hm := h0.2.1
  by_cases hbig : (1048576 : Int) < (len : Int)
  · go_enter Try.func12, Try.ntmps12
    go_wp2_with fail
    refine (szTimeS_any _ _ _ _ _ hl hm (by omega) (by omega)).mono ?_
    rintro e w1 ⟨rfl, rfl⟩
    rw [if_pos hbig]
    go_wp2_with fail
    go_ret
    exact ⟨rfl, Below.refl _ _⟩
  obtain ⟨l, rfl, ht⟩ := h0.ts (by omega)
  have hlen : l.length ≤ maxLen := by unfold maxLen at *; omega
  have hln2 : l.length ≤ 2097152 := by omega
  have hF8 := front_len8 l
  go_enter Try.func12, Try.ntmps12
  go_wp2_with fail
  refine (szTimeS_any _ _ _ _ _ hl hm (by omega) (by omega)).mono ?_
  rintro e w0 ⟨rfl, hw0⟩
  subst hw0
  rw [if_neg (by omega)]
  have hpos : ¬ ((1048576 : Int) - (l.length : Int) < 0) := by omega
  go_wp2_with fail
  refine (toTimeS_any _ l _ ht).mono ?_
  rintro e w1 ⟨g1, c1, rfl, hg1, hbk1, hcs1, hfill1, hb1⟩
  have t1 := Ts.of_blk hbk1 hfill1 (Nat.le_refl _) hlen hln2
  have ht1 := ht.keep hb1
  clear hcs1 hfill1 hbk1
  go_wp2_with fail
  refine (specFrontOf_any _ l _ t1).mono ?_
  rintro e w2 ⟨o2, rfl, own2, hb2⟩
  have ht2 := ht1.keep hb2
  have hbw2 := bStep hb1 hb2
  have O2 := (show Hid _ from own2)
  have L2 := (show Hid _ from own_lt own2)
  clear hb1 hb2 ht1 t1 own2
  go_wp2_with fail
  refine (toTimeS_any _ l _ ht2).mono ?_
  rintro e w3 ⟨gx, cx, rfl, hgx, hbk3, hcs3, hfill3, hb3⟩
  have t3 := Ts.of_blk hbk3 hfill3 (Nat.le_refl _) hlen hln2
  have hbw3 := bStep hbw2 hb3
  have O3 := (show Hid _ from own_keep O2.out hb3)
  have ltx := hbk3.lt
  have hs23 := hb3.size
  have hsw2 := hbw2.size
  clear ht2 hbw2 hb3 O2
  go_wp2_with fail
  refine (implFrontOf_any _ l _ t3).mono ?_
  rintro e w4 ⟨o4, rfl, own4, hb4⟩
  have t4 := t3.keep hb4
  have bx4 := hbk3.keep hb4
  have hbw4 := bStep hbw3 hb4
  have O4 := (show Hid _ from own_keep O3.out hb4)
  have P4 := (show Hid _ from own4)
  have tg4 := Own.ts own4 (by omega)
  have tw4 := Own.ts O4.out (by omega)
  have G4 := (show Hid _ from own_base own4)
  have hs34 := hb4.size
  clear own4 hb4 O3 t3 hbk3 hbw3
  go_wp2_with fail
  refine (eqTimeS_same _ _ _ _ tg4 tw4).mono ?_
  rintro e w5 ⟨rfl, hb5⟩
  have t5 := t4.keep hb5
  have bx5 := bx4.keep hb5
  have hbw5 := bStep hbw4 hb5
  have O5 := (show Hid _ from own_keep O4.out hb5)
  have P5 := (show Hid _ from own_keep P4.out hb5)
  have hs45 := hb5.size
  clear hb5 O4 P4 t4 bx4 hbw4 tg4 tw4
  go_wp2_with fail
  refine (toTimeS_any _ l _ (ht.keep hbw5)).mono ?_
  rintro e w6 ⟨g6, c6, rfl, hg6, hbk6, hcs6, hfill6, hb6⟩
  have t6' := Ts.of_blk hbk6 hfill6 (Nat.le_refl _) hlen hln2
  have t6 := t5.keep hb6
  have bx6 := bx5.keep hb6
  have hbw6 := bStep hbw5 hb6
  have O6 := (show Hid _ from own_keep O5.out hb6)
  have P6 := (show Hid _ from own_keep P5.out hb6)
  have hs56 := hb6.size
  clear hb6 O5 P5 t5 bx5 hbw5 hcs6 hfill6 hbk6
  go_wp2_with fail
  refine (eqTimeS_same _ _ l _ t6 t6').mono ?_
  rintro e w7 ⟨rfl, hb7⟩
  have bx7 := bx6.keep hb7
  have hbw7 := bStep hbw6 hb7
  have O7 := (show Hid _ from own_keep O6.out hb7)
  have P7 := (show Hid _ from own_keep P6.out hb7)
  have hs67 := hb7.size
  clear hb7 O6 P6 t6 t6' bx6 hbw6
  go_wp2_with fail
  refine (markB_any gx l.length l.length cx 1 w7 bx7 hcs3 (Nat.le_refl _) hln2 (by omega) (by omega)).mono ?_
  rintro e w8 ⟨c8, rfl, bx8, hcs8, hfill8, hx8⟩
  have hbw8 := hx8.below hbw7 (by omega) (by omega)
  have O8 := own_beside O7.out hx8 (fun k e => by have := L2.out k e; omega)
  have P8 := own_beside P7.out hx8 (fun k e => by have := G4.out k e; omega)
  have tg8 := Own.ts P8 (by omega)
  have tw8 := Own.ts O8 (by omega)
  have hs78 := hx8.size
  have OO8 := (show Hid _ from O8)
  have PP8 := (show Hid _ from P8)
  clear O7 P7 O8 P8 hx8 hfill8 hcs8 bx8 hbw7 bx7 hcs3 hfill3
  have hkn : decide ((1 : Int) + 2 * (l.length : Int) < 0) = false := by simp; omega
  go_wp2_with fail
  refine (eqTimeS_same _ _ _ _ tg8 tw8).mono ?_
  rintro e w9 ⟨rfl, hb9⟩
  have hbw9 := bStep hbw8 hb9
  have O9 := (show Hid _ from own_keep OO8.out hb9)
  have P9 := own_keep PP8.out hb9
  have hs89 := hb9.size
  clear OO8 PP8 hbw8 hb9 tg8 tw8
  go_wp2_with fail
  refine (markO_any P9 (by omega) (by omega) 1 (by omega) (by omega)).mono ?_
  rintro e w10 ⟨rfl, P10, hb10⟩
  have hbw10 := hbw9.trans (hb10.mono (by omega))
  have O10 := (show Hid _ from own_under O9.out hb10 (fun k e => by have := L2.out k e; omega))
  have hs910 := hb10.size
  have tm10 := Own.ts P10 (by rw [marksL_len]; omega)
  have PP10 := (show Hid _ from P10)
  clear P9 O9 P10 hbw9 hb10
  go_wp2_with fail
  refine (held_any _ (frontL l).length 1 _ tm10 (by omega) (by omega)).mono ?_
  rintro e w11 ⟨rfl, hb11⟩
  have hbw11 := bStep hbw10 hb11
  have O11 := (show Hid _ from own_keep O10.out hb11)
  have P11 := (show Hid _ from own_keep PP10.out hb11)
  have hs1011 := hb11.size
  clear PP10 O10 hbw10 hb11 tm10
  have hqn : decide ((1 : Int) + 2 * ((frontL l).length : Int) < 0) = false := by simp; omega
  go_wp2_with fail
  refine (toTimeS_any _ l _ (ht.keep hbw11)).mono ?_
  rintro e w12 ⟨g12, c12, rfl, hg12, hbk12, hcs12, hfill12, hb12⟩
  have t12 := Ts.of_blk hbk12 hfill12 (Nat.le_refl _) hlen hln2
  have hbw12 := bStep hbw11 hb12
  have O12 := (show Hid _ from own_keep O11.out hb12)
  have P12 := (show Hid _ from own_keep P11.out hb12)
  clear hb12 O11 P11 hbw11 hcs12 hfill12 hbk12
  go_wp2_with fail
  refine (implFrontOf_any _ l _ t12).mono ?_
  rintro e w13 ⟨o13, rfl, own13, hb13⟩
  have hbw13 := bStep hbw12 hb13
  have tw13 := Own.ts (own_keep O12.out hb13) (by omega)
  have P13 := (show Hid _ from own_keep P12.out hb13)
  have th13 := Own.ts own13 (by omega)
  clear hb13 O12 P12 hbw12 own13 t12
  go_wp2_with fail
  refine (eqTimeS_same _ _ _ _ th13 tw13).mono ?_
  rintro e w14 ⟨rfl, hb14⟩
  have hbw14 := bStep hbw13 hb14
  have tm14 := Own.ts (own_keep P13.out hb14) (by rw [marksL_len]; omega)
  clear hb14 P13 hbw13 th13 tw13
  go_wp2_with fail
  refine (held_any _ (frontL l).length 1 _ tm14 (by omega) (by omega)).mono ?_
  rintro e w15 ⟨rfl, hb15⟩
  have hbw15 := bStep hbw14 hb15
  clear hb15 hbw14 tm14
  go_wp2_with fail
  go_ret
  exact ⟨rfl, hbw15⟩
end FnExactFrontOf
namespace RowFnExactFrontOf
theorem own : ownKnob Try.prog.godebug = none := by kernel_rfl
theorem laidOut : laidOutB Try.prog = true := by kernel_rfl
set_option maxRecDepth 100000 in
theorem lifted (os : Os) (started : os.Started) (H : Type) (enc : TypeId × Value → H) :
    ReturnsInHanded {} Try.checked os 12 .any (Rows.fnExactFrontOfSpec.pre6 enc Try.prog Try.f12 Rows.fnExactFrontOfRow.domain false) (Rows.fnExactFrontOfSpec.post enc Try.prog Try.f12 false true false false) := by
  refine returnsInHanded_of_change (C := Try.checked) own started (by kernel_rfl) Try.func12
    (ChangeSpec.witness6 (enc := enc) (C := Try.checked) false ⟨#[], #[.slice none 0 0], []⟩ 8 (by kernel_rfl) (by kernel_rfl) (by kernel_rfl) (by kernel_rfl)) ?_
  intro W base args ds gs before hval0 hW hcnd _
  have hval : ∀ (j : Nat) t v, Try.f12.params[j]? = some t → args[j]? = some v → Value.okWide Try.prog W .any base t v := hval0
  have hW' := hW
  obtain ⟨p, q, hA0, hV, rfl, hfz, hnd⟩ := hW
  have hA : DataW.TrodAll enc Try.prog W 0 (fun _ => true) true Try.f12.params.toList args.toList ds p := hA0
  rw [Try.params12] at hA hval
  obtain ⟨v0, vs0, d0, ds0, p0, q0, hargs, rfl, rfl, h0, r0⟩ := trodAll_cons hA
  obtain ⟨rfl, rfl, rfl⟩ := trodAll_nil r0
  obtain rfl : args = #[v0] := by cases args; simp_all
  obtain ⟨rfl, rfl⟩ := trodVars_none hV
  obtain ⟨a0, len0, cap0, rfl⟩ := okWide_slice Try.underlying41 (hval 0 41 v0 rfl rfl)
  have k0 := h0
  have lt0 : ∀ x ∈ p0, x.block < W.heap.size := by obtain ⟨m, hm⟩ := k0; exact DataW.trod_lt m _ _ _ hm
  have w0 : TsArg W a0 len0 cap0 := TsArg.of_trod h0
  clear hA0 hval0
  refine (FnExactFrontOf.walk a0 len0 cap0 W w0).mono fun e W' ⟨he, bel⟩ => ?_
  subst he
  exact ⟨_, rfl, _, _, _, [], _, [], hW', trodAll_mk1 (shut_bool Try.underlying4 _), (trodAll_cons_mk (Below.trod laidOut (by kernel_rfl) (of_decide_eq_true (by kernel_rfl)) k0 bel lt0) trodAll_mk0), rfl, bel.frame _, fun h => by cases h⟩
theorem over : Rows.fnExactFrontOfRow.holds Try.pinned (OpenSpec.ofChange Rows.fnExactFrontOfSpec) :=
  OpenClaim.holds_of_wide 12 Try.f12 rfl rfl rfl rfl rfl rfl rfl ⟨rfl, rfl, rfl, rfl, rfl⟩ rfl rfl rfl rfl rfl (by kernel_rfl) Try.func12 (by kernel_rfl)
    (of_decide_eq_true (by kernel_rfl)) (by unfold Func.isWrapper; first | (rw [if_pos (by decide +kernel)]; kernel_rfl) | (rw [if_neg (by decide +kernel)]; exact ⟨rfl, rfl⟩))
    (fun os started H enc _ => lifted os started H enc)
end RowFnExactFrontOf
theorem fnExactFrontOf_holds : Rows.FnExactFrontOfSaid := RowFnExactFrontOf.over
end Go.Proofs.Ytpmkhempkblokaa
