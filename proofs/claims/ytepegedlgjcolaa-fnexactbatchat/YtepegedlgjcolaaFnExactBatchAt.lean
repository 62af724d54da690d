/- For every list of rows and time, whatever the numbers, BatchAt of the program answers as BatchAt of the model (more than 1048576 of them are passed by, as the law says), the list is left as it was, the answer keeps nothing of them and owns its memory, behind another call too, and the arguments read afterwards as before. No condition. -/
import Derived.Test.YtepegedlgjcolaaPf
import Derived.Test.YtepegedlgjcolaaBa5
import Derived.Test.YtepegedlgjcolaaBa6
import Derived.Test.YtepegedlgjcolaaSg2
import Derived.Test.YtepegedlgjcolaaSj2
import Derived.Deep.RegionHeld3
namespace Go.Proofs.Ytepegedlgjcolaa
open Go.ChangeShapes Go.WideShapes Go.ChangeAt Go.RowKit Go.Joins

namespace FnExactBatchAt
set_option maxHeartbeats 16000000 in
theorem walk (a0 : Option Addr) (len0 cap0 : Nat) (x1 y1 : Int) (w : World) (h0 : RsArg w a0 len0 cap0) :
    Calls Try.prog 14 #[.slice a0 len0 cap0, tv x1 y1] w fun e w' => e = .returned (.bool true) ∧ Below w.heap.size w w' := by
  have hl0 := h0.1
  have hm0 := h0.2.1
  by_cases hbig0 : (1048576 : Int) < (len0 : Int)
  · go_enter Try.func14, Try.ntmps14
    go_wp2_with fail
    refine (szRowS_any _ _ _ _ _ hl0 hm0 (by omega) (by omega)).mono ?_
    rintro e wz0 ⟨rfl, rfl⟩
    rw [if_pos hbig0]
    go_wp2_with fail
    go_ret
    refine ⟨rfl, ?_⟩
    repeat' (first | (with_reducible exact Below.refl _ _) | (with_reducible assumption) | (with_reducible refine bStep ?_ (by with_reducible assumption)) | (with_reducible refine bAlloc ?_ _) | (with_reducible refine Below.drew ?_) | (with_reducible refine bDrewN ?_ _) | (with_reducible refine Below.setCell ?_ ?_ _) | (simp; done) | (simp; omega) | omega)
  obtain ⟨l0, rfl, ht0⟩ := h0.rs (by omega)
  have hlen0 : l0.length ≤ maxLen := by unfold maxLen at *; omega
  have hn0 : l0.length ≤ 2097152 := by omega
  have hR := items_len l0 x1 y1
  have bx := Bk.new (w := w) #[.int .i64 x1, .int .i64 y1] 55 rfl
  have hb0 := bAlloc (Below.refl _ w) (.cells #[.int .i64 x1, .int .i64 y1] 55)
  replace ht0 := ht0.keep hb0
  go_enter Try.func14, Try.ntmps14
  go_wp2_with fail
  generalize (w.alloc (.cells #[.int .i64 x1, .int .i64 y1] 55)) = W0 at *
  refine (szRowS_any _ _ _ _ _ hl0 hm0 (by omega) (by omega)).mono ?_
  rintro e W ⟨rfl, hwz0⟩
  subst hwz0
  rw [if_neg (by omega)]
  have hp0 : ¬ ((1048576 : Int) - (l0.length : Int) < 0) := by omega
  have HX : Hid (∀ w', Below W.heap.size W w' → w'.cell? ⟨w.heap.size, 0, none⟩ = some (.int .i64 x1) ∧ w'.cell? ⟨w.heap.size, 1, none⟩ = some (.int .i64 y1)) := fun w' h => ⟨(bx.keep h).two.1, (bx.keep h).two.2.1⟩
  have hdr : Below W.heap.size W W.drew := (Below.refl _ _).drew
  have htD := ht0.keep hdr
  obtain ⟨b0, b1, _, _⟩ := bx.two
  go_wp2_with fail
  go_region_held3 (fun w' => w'.cell? ⟨w.heap.size, 0, none⟩ = some (.int .i64 x1) ∧ w'.cell? ⟨w.heap.size, 1, none⟩ = some (.int .i64 y1))
    (first | exact HX.out _ hdr | exact HX.out _ hbw1 | exact HX.out _ hbw2 | exact HX.out _ hbw3)
    (first
      | (go_at_call 45; refine (toRowS_any _ l0 _ htD).mono ?_; rintro e w1 ⟨g1, c1, rfl, hg1, hbk1, hcs1, hfill1, hb1⟩; have hbw1 := bStep hdr hb1; have s0 := SlK.of_blk hbk1 hfill1 rowC_len (Nat.le_refl _) hlen0 hn0; have hsz1 := hbw1.size; clear hcs1 hfill1 hbk1)
      | (go_at_call 50; refine (toTime_any _ _ _).mono ?_; rintro e w2 ⟨rfl, hb2⟩; have hbw2 := bStep hbw1 hb2; have s0_2 := s0.keep hb2; have hsz2 := hb2.size)
      | (go_at_call 49; refine (specAt_any _ l0 x1 y1 _ s0_2).mono ?_; rintro e w3 ⟨o3, rfl, own3, hb3⟩; have hbw3 := bStep hbw2 hb3; have hsz3 := hb3.size))
  clear b0 b1 htD
  have OS : Hid (OwnI w3 w2.heap.size o3 (itemsL l0 x1 y1)) := own3
  have SL := (show Hid _ from ownK_lt own3)
  have SB := (show Hid _ from ownK_base own3)
  clear own3
  go_wp2_with fail
  refine (toRowS_any _ l0 _ (ht0.keep hbw3)).mono ?_
  rintro e w4 ⟨g4, c4, rfl, hg4, hbk4, hcs4, hfill4, hb4⟩
  have hbw4 := bStep hbw3 hb4
  have OS_4 : Hid (OwnI w4  w2.heap.size o3 (itemsL l0 x1 y1)) := own_keep OS.out hb4
  have hsz4 := hb4.size
  have x0_ := SlK.of_blk hbk4 hfill4 rowC_len (Nat.le_refl _) hlen0 hn0
  have hlt4 := hbk4.lt
  clear hfill4
  obtain ⟨b4, b5⟩ := HX.out _ hbw4
  go_wp2_with fail
  refine (toTime_any _ _ _).mono ?_
  rintro e w5 ⟨rfl, hb5⟩
  have hbw5 := bStep hbw4 hb5
  have x0__5 := x0_.keep hb5
  have x0_b_5 := hbk4.keep hb5
  have OS_5 : Hid (OwnI w5  w2.heap.size o3 (itemsL l0 x1 y1)) := own_keep OS_4.out hb5
  have hsz5 := hb5.size
  clear b4 b5
  go_wp2_with fail
  refine (implAt_any _ l0 x1 y1 _ x0__5).mono ?_
  rintro e w6 ⟨o6, rfl, own6, hb6⟩
  have hbw6 := bStep hbw5 hb6
  have x0__6 := x0__5.keep hb6
  have x0_b_6 := x0_b_5.keep hb6
  have OS_6 : Hid (OwnI w6  w2.heap.size o3 (itemsL l0 x1 y1)) := own_keep OS_5.out hb6
  have hsz6 := hb6.size
  have OG : Hid (OwnI w6 w5.heap.size o6 (itemsL l0 x1 y1)) := own6
  have GB := (show Hid _ from ownK_base own6)
  clear own6
  go_wp2_with fail
  refine (eqItemS_same _ _ _ _ (OwnI.is OG.out (by omega)) (OwnI.is OS_6.out (by omega))).mono ?_
  rintro e w7 ⟨rfl, hb7⟩
  have hbw7 := bStep hbw6 hb7
  have x0__7 := x0__6.keep hb7
  have x0_b_7 := x0_b_6.keep hb7
  have OS_7 : Hid (OwnI w7  w2.heap.size o3 (itemsL l0 x1 y1)) := own_keep OS_6.out hb7
  have OG_7 : Hid (OwnI w7  w5.heap.size o6 (itemsL l0 x1 y1)) := own_keep OG.out hb7
  have hsz7 := hb7.size
  go_wp2_with fail
  refine (toRowS_any _ l0 _ (ht0.keep hbw7)).mono ?_
  rintro e w8 ⟨g8, c8, rfl, hg8, hbk8, hcs8, hfill8, hb8⟩
  have hbw8 := bStep hbw7 hb8
  have x0__8 := x0__7.keep hb8
  have x0_b_8 := x0_b_7.keep hb8
  have OS_8 : Hid (OwnI w8  w2.heap.size o3 (itemsL l0 x1 y1)) := own_keep OS_7.out hb8
  have OG_8 : Hid (OwnI w8  w5.heap.size o6 (itemsL l0 x1 y1)) := own_keep OG_7.out hb8
  have hsz8 := hb8.size
  have q0 := SlK.of_blk hbk8 hfill8 rowC_len (Nat.le_refl _) hlen0 hn0
  clear hcs8 hfill8 hbk8
  go_wp2_with fail
  refine (eqRowS_same _ _ l0 _ x0__8 q0).mono ?_
  rintro e w9 ⟨rfl, hb9⟩
  have hbw9 := bStep hbw8 hb9
  have x0__9 := x0__8.keep hb9
  have q0_9 := q0.keep hb9
  have x0_b_9 := x0_b_8.keep hb9
  have OS_9 : Hid (OwnI w9  w2.heap.size o3 (itemsL l0 x1 y1)) := own_keep OS_8.out hb9
  have OG_9 : Hid (OwnI w9  w5.heap.size o6 (itemsL l0 x1 y1)) := own_keep OG_8.out hb9
  have hsz9 := hb9.size
  go_wp2_with fail
  refine (markRB_any g4 l0.length l0.length c4 1 _ x0_b_9 hcs4 (Nat.le_refl _) hn0 (by omega) (by omega)).mono ?_
  rintro e w10 ⟨c10, rfl, bm10, hcm10, hfm10, hx10⟩
  have hbw10 := hx10.below hbw9 (by omega) (by omega)
  have OS_10 : Hid (OwnI w10 w2.heap.size o3 (itemsL l0 x1 y1)) := ownK_beside OS_9.out hx10 (fun q e => by have := SL.out q e; omega)
  have OG_10 : Hid (OwnI w10 w5.heap.size o6 (itemsL l0 x1 y1)) := ownK_beside OG_9.out hx10 (fun q e => by have := GB.out q e; omega)
  have hsz10 := hx10.size
  clear bm10 hcm10 hfm10 hx10
  have hkn : decide ((1 : Int) + 5 * (l0.length : Int) < 0) = false := by simp; omega
  go_wp2_with fail
  refine (eqItemS_same _ _ _ _ (OwnI.is OG_10.out (by omega)) (OwnI.is OS_10.out (by omega))).mono ?_
  rintro e w11 ⟨rfl, hb11⟩
  have hbw11 := bStep hbw10 hb11
  have OS_11 : Hid (OwnI w11  w2.heap.size o3 (itemsL l0 x1 y1)) := own_keep OS_10.out hb11
  have OG_11 : Hid (OwnI w11  w5.heap.size o6 (itemsL l0 x1 y1)) := own_keep OG_10.out hb11
  have hsz11 := hb11.size
  go_wp2_with fail
  refine (markIO_any OG_11.out (by omega) (by omega) 1 (by omega) (by omega)).mono ?_
  rintro e w12 ⟨rfl, om12, hb12⟩
  have hbw12 := hbw11.trans (hb12.mono (by omega))
  have OS_12 : Hid (OwnI w12 w2.heap.size o3 (itemsL l0 x1 y1)) := ownK_under OS_11.out hb12 (fun q e => by have := SL.out q e; omega)
  have OM_12 : Hid (OwnI w12 w5.heap.size o6 (marksI 1 (itemsL l0 x1 y1).length)) := om12
  have hsz12 := hb12.size
  clear om12 hb12
  have hqn : decide ((1 : Int) + 3 * ((itemsL l0 x1 y1).length : Int) < 0) = false := by simp; omega
  go_wp2_with fail
  refine (heldI_any _ (itemsL l0 x1 y1).length 1 _ (OwnI.is OM_12.out (by rw [marksI_len]; omega)) (by omega) (by omega)).mono ?_
  rintro e w13 ⟨rfl, hb13⟩
  have hbw13 := bStep hbw12 hb13
  have OS_13 : Hid (OwnI w13  w2.heap.size o3 (itemsL l0 x1 y1)) := own_keep OS_12.out hb13
  have OM_13 : Hid (OwnI w13  w5.heap.size o6 (marksI 1 (itemsL l0 x1 y1).length)) := own_keep OM_12.out hb13
  have hsz13 := hb13.size
  obtain ⟨b0, b1⟩ := HX.out _ hbw13
  have hdr' : Below w13.heap.size w13 w13.drew := (Below.refl _ _).drew
  have hdw := hbw13.drew
  have htD := ht0.keep hdw
  go_wp2_with fail
  go_region_held3 (fun w' => w'.cell? ⟨w.heap.size, 0, none⟩ = some (.int .i64 x1) ∧ w'.cell? ⟨w.heap.size, 1, none⟩ = some (.int .i64 y1))
    (first | exact HX.out _ hdw | exact HX.out _ hbw14 | exact HX.out _ hbw15 | exact HX.out _ hbw16)
    (first
      | (go_at_call 45; refine (toRowS_any _ l0 _ htD).mono ?_; rintro e w14 ⟨g14, c14, rfl, hg14, hbk14, hcs14, hfill14, hb14⟩; have hbw14 := bStep hdw hb14; have hbv14 := bStep hdr' hb14; have z0 := SlK.of_blk hbk14 hfill14 rowC_len (Nat.le_refl _) hlen0 hn0; clear hcs14 hfill14 hbk14)
      | (go_at_call 50; refine (toTime_any _ _ _).mono ?_; rintro e w15 ⟨rfl, hb15⟩; have hbw15 := bStep hbw14 hb15; have hbv15 := bStep hbv14 hb15; have z0_15 := z0.keep hb15)
      | (go_at_call 43; refine (implAt_any _ l0 x1 y1 _ z0_15).mono ?_; rintro e w16 ⟨o16, rfl, own16, hb16⟩; have hbw16 := bStep hbw15 hb16; have hbv16 := bStep hbv15 hb16))
  have hsz16 := hbv16.size
  have OS_16 : Hid (OwnI w16  w2.heap.size o3 (itemsL l0 x1 y1)) := own_keep OS_13.out hbv16
  have OM_16 : Hid (OwnI w16  w5.heap.size o6 (marksI 1 (itemsL l0 x1 y1).length)) := own_keep OM_13.out hbv16
  clear b0 b1 htD
  have th := OwnI.is own16 (by omega)
  clear own16
  go_wp2_with fail
  refine (eqItemS_same _ _ _ _ th (OwnI.is OS_16.out (by omega))).mono ?_
  rintro e w17 ⟨rfl, hb17⟩
  have hbw17 := bStep hbw16 hb17
  have th_17 := th.keep hb17
  have OS_17 : Hid (OwnI w17  w2.heap.size o3 (itemsL l0 x1 y1)) := own_keep OS_16.out hb17
  have OM_17 : Hid (OwnI w17  w5.heap.size o6 (marksI 1 (itemsL l0 x1 y1).length)) := own_keep OM_16.out hb17
  have hsz17 := hb17.size
  go_wp2_with fail
  refine (heldI_any _ (itemsL l0 x1 y1).length 1 _ (OwnI.is OM_17.out (by rw [marksI_len]; omega)) (by omega) (by omega)).mono ?_
  rintro e w18 ⟨rfl, hb18⟩
  have hbw18 := bStep hbw17 hb18
  go_wp2_with fail
  go_ret
  exact ⟨rfl, bStep hb0 hbw18⟩
end FnExactBatchAt
namespace RowFnExactBatchAt
theorem own : ownKnob Try.prog.godebug = none := by kernel_rfl
theorem cellsT : Try.prog.cellsOf 55 = 2 := by kernel_rfl
set_option maxRecDepth 100000 in
theorem lifted (os : Os) (started : os.Started) (H : Type) (enc : TypeId × Value → H) :
    ReturnsInHanded {} Try.checked os 14 .any (Rows.fnExactBatchAtSpec.pre6 enc Try.prog Try.f14 Rows.fnExactBatchAtRow.domain false) (Rows.fnExactBatchAtSpec.post enc Try.prog Try.f14 false true false false) := by
  refine returnsInHanded_of_change (C := Try.checked) own started (by kernel_rfl) Try.func14
    (ChangeSpec.witness6 (enc := enc) (C := Try.checked) false ⟨#[], #[.slice none 0 0, .agg #[.int .i64 0, .int .i64 0]], []⟩ 8 (by kernel_rfl) (by kernel_rfl) (by kernel_rfl) (by kernel_rfl)) ?_
  intro W base args ds gs before hval0 hW hcnd _
  have hval : ∀ (j : Nat) t v, Try.f14.params[j]? = some t → args[j]? = some v → Value.okWide Try.prog W .any base t v := hval0
  have hW' := hW
  obtain ⟨p, q, hA0, hV, rfl, hfz, hnd⟩ := hW
  have hA : DataW.TrodAll enc Try.prog W 0 (fun _ => true) true Try.f14.params.toList args.toList ds p := hA0
  rw [Try.params14] at hA hval
  obtain ⟨v0, vs0, d0, ds0, p0, q0, hargs, rfl, rfl, h0, r0⟩ := trodAll_cons hA
  obtain ⟨v1, vs1, d1, ds1, p1, q1, rfl, rfl, rfl, h1, r1⟩ := trodAll_cons r0
  obtain ⟨rfl, rfl, rfl⟩ := trodAll_nil r1
  obtain rfl : args = #[v0, v1] := by cases args; simp_all
  obtain ⟨rfl, rfl⟩ := trodVars_none hV
  obtain ⟨a0, len0, cap0, rfl⟩ := okWide_slice Try.underlying50 (hval 0 50 v0 rfl rfl)
  have k0 := h0
  have lt0 : ∀ x ∈ p0, x.block < W.heap.size := by obtain ⟨m, hm⟩ := k0; exact DataW.trod_lt m _ _ _ hm
  have w0 : RsArg W a0 len0 cap0 := RsArg.of_trod h0
  have k1 := h1
  have lt1 : ∀ x ∈ p1, x.block < W.heap.size := by obtain ⟨m, hm⟩ := k1; exact DataW.trod_lt m _ _ _ hm
  obtain ⟨a1, b1, rfl⟩ : ∃ a b : Int, v1 = tv a b := by
    obtain ⟨c0, c1, y0, y1, m, rfl, _, _, hy0, hy1⟩ := open_agg2 Try.underlying55 (by kernel_rfl) cellsT (hval 1 55 v1 rfl rfl) h1
    obtain ⟨a, e0, _, _⟩ := DataW.trod_int Try.underlying3 hy0
    obtain ⟨b, e1, _, _⟩ := DataW.trod_int Try.underlying3 hy1
    simp at e0 e1
    exact ⟨a, b, by rw [e0, e1]⟩
  clear hA0 hval0
  refine (FnExactBatchAt.walk a0 len0 cap0 a1 b1 W w0).mono fun e W' ⟨he, bel⟩ => ?_
  subst he
  exact ⟨_, rfl, _, _, _, [], _, [], hW', trodAll_mk1 (shut_bool Try.underlying4 _), (trodAll_cons_mk (Below.trod pfLaid (by kernel_rfl) (of_decide_eq_true (by kernel_rfl)) k0 bel lt0) (trodAll_cons_mk (Below.trod pfLaid (by kernel_rfl) (of_decide_eq_true (by kernel_rfl)) k1 bel lt1) trodAll_mk0)), rfl, bel.frame _, fun h => by cases h⟩
theorem closed : joinedFacts Try.prog 14 Try.f14 Rows.fnExactBatchAtSpec Rows.fnExactBatchAtRow = true := by
  unfold joinedFacts
  exact (andB (andB (andB (andB (andB (andB (andB (andB (andB (andB (andB (andB (andB (andB (andB (andB (andB (andB (andB (andB (andB (andB (andB (andB (andB (andB (andB (andB (andB (andB (andB (by as_aux_lemma => kernel_rfl) pfLaid) pfRowed) (by as_aux_lemma => kernel_rfl)) (by as_aux_lemma => kernel_rfl)) (by as_aux_lemma => kernel_rfl)) (by as_aux_lemma => kernel_rfl)) (by as_aux_lemma => kernel_rfl)) (by as_aux_lemma => kernel_rfl)) (by as_aux_lemma => kernel_rfl)) (by as_aux_lemma => kernel_rfl)) (by as_aux_lemma => kernel_rfl)) (by as_aux_lemma => kernel_rfl)) (by as_aux_lemma => kernel_rfl)) (by as_aux_lemma => kernel_rfl)) (by as_aux_lemma => kernel_rfl)) (by as_aux_lemma => kernel_rfl)) (by as_aux_lemma => kernel_rfl)) (by as_aux_lemma => kernel_rfl)) (by as_aux_lemma => kernel_rfl)) (by as_aux_lemma => kernel_rfl)) (by as_aux_lemma => kernel_rfl)) (by as_aux_lemma => kernel_rfl)) (by as_aux_lemma => kernel_rfl)) pfHeard) pfEnter) (pfLiftB rfl)) (pfMakeB rfl)) (by as_aux_lemma => kernel_rfl)) (by as_aux_lemma => kernel_rfl)) (by as_aux_lemma => kernel_rfl)) (by as_aux_lemma => kernel_rfl))
theorem over : Rows.fnExactBatchAtRow.holds Try.pinned (OpenSpec.ofChange Rows.fnExactBatchAtSpec) :=
  OpenClaim.holds_of_wide 14 Try.f14 rfl rfl rfl rfl rfl rfl rfl ⟨rfl, rfl, rfl, rfl, rfl⟩ rfl rfl rfl rfl rfl (by kernel_rfl) Try.func14 closed
    (of_decide_eq_true (by kernel_rfl)) (by unfold Func.isWrapper; first | (rw [if_pos (by decide +kernel)]; kernel_rfl) | (rw [if_neg (by decide +kernel)]; exact ⟨rfl, rfl⟩))
    (fun os started H enc _ => lifted os started H enc)
end RowFnExactBatchAt
theorem fnExactBatchAt_holds : Rows.FnExactBatchAtSaid := RowFnExactBatchAt.over
end Go.Proofs.Ytepegedlgjcolaa
