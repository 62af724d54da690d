/- For all bytes: BatchOf of the program makes of the rows that they draw what the model makes of them, and of the same rows turned about the same; the argument reads afterwards as before. No condition. -/
import Derived.Test.YtebgjpghccnfcaaPf
import Derived.Test.YtebgjpghccnfcaaGd3
namespace Go.Proofs.Ytebgjpghccnfcaa
open Go.ChangeShapes Go.WideShapes Go.ChangeAt Go.RowKit Go.Joins

namespace FnBatchOrder
set_option maxRecDepth 100000 in
set_option maxHeartbeats 8000000 in
theorem walk (x0 : Option Addr) (len0 cap0 : Nat) (w : World) (h0 : Src w (.slice x0 len0 cap0) len0) :
    Calls Try.prog 5 #[.slice x0 len0 cap0] w fun e w' => e = .returned (.bool true) ∧ Below w.heap.size w w' := by
  by_cases g0 : (1048576 : Int) < (len0 : Int)
  · go_enter Try.func5, Try.ntmps5
    go_wp2_with fail
    go_ret
    exact ⟨rfl, Below.refl _ _⟩
  go_enter Try.func5, Try.ntmps5
  go_wp2_with fail
  refine (drawBatchOf_any _ _ _ _ h0).mono ?_
  rintro e w1 ⟨o, l, rfl, hd, R_1, hb1⟩
  have hbw1 := hb1
  clear h0 hb1
  obtain ⟨L, hL_L⟩ : ∃ zz, batchL l = zz := ⟨_, rfl⟩
  have HL : Hid (batchL l = L) := hL_L
  clear hL_L
  have HV : Hid (batchL l.reverse = L) := by show _ = _; rw [batch_reverse]; exact HL.out
  go_wp2_with fail
  refine (implBatchOf_k HL.out R_1).mono ?_
  rintro e w2 ⟨ob, rfl, B_2, hb2⟩
  have R_2 := R_1.keep hb2
  have hbw2 := bStep hbw1 hb2
  clear R_1 hbw1 hb2
  have hl11 := hd.1
  have HR0 : Hid (Rs w2 o l) := R_2
  have HB : Hid (Rs w2 ob L) := B_2
  obtain ⟨ao, capo, rfl, hco, hmo, hno, hcells⟩ := Rs.open R_2
  have HR : Hid (Rs w2 (.slice ao l.length capo) l) := HR0
  unfold maxLen at hmo
  have HC := (show Hid _ from hcells)
  have oE := ownR_empty w2 rfl
  clear hcells HR0 R_2 B_2
  go_wp2_with fail
  go_loopw [5, 6] (fun o i wr => ∃ (z : Int) (m : Nat), z + 1 = m ∧ m ≤ l.length ∧ i = .int .i64 z ∧ OwnR wr w2.heap.size o (l.drop m).reverse ∧ Below w2.heap.size w2 wr) (fun _ i _ => (intOf i + 1).toNat)
  case atStart => exact ⟨(l.length : Int) - 1, l.length, by omega, by omega, rfl, (by show OwnR _ _ _ (List.drop l.length l).reverse; rw [List.drop_length]; exact oE), bAlloc (Below.refl _ _) _⟩
  clear oE
  obtain ⟨z, m, hzm, hml, rfl, hown, hb⟩ := hrel
  have HO : Hid (OwnR wr w2.heap.size u5 (l.drop m).reverse) := hown
  clear hown
  by_cases hz : 0 ≤ z
  · obtain ⟨j, rfl⟩ := Int.eq_ofNat_of_zero_le hz
    obtain rfl : m = j + 1 := by omega
    have hjl : j < l.length := by omega
    obtain ⟨g, off, K, V, A, B1, D, rfl, hg, hr, c0, c1, c2, c3, c4⟩ := HC.out j hjl
    have d0 := cell_below hb c0
    have d1 := cell_below hb c1
    have d2 := cell_below hb c2
    have d3 := cell_below hb c3
    have d4 := cell_below hb c4
    have HZ : Hid ((l.drop (j + 1)).reverse ++ [(((K, V), (A, B1)), D)] = (l.drop j).reverse) := by show _ = _; rw [drop_cons hr, List.reverse_cons]
    have hs := hb.size
    have hlen : ((l.drop (j + 1)).reverse).length ≤ 100 := by simp; omega
    have ik : (j : Int) < (l.length : Int) := by omega
    have O1 : OwnR wr w2.heap.size u5 (l.drop (j + 1)).reverse := HO.out
    clear c0 c1 c2 c3 c4 hr HO
    generalize (l.drop (j + 1)).reverse = LL at *
    go_wp2_with (at_builtin; refine appR _ rfl _ _ rfl w2.heap.size _ LL rfl (O1.alloc _) _ K V A B1 D rfl (Bk.new _ _ rfl) (by omega) (by simp; omega) ?_; intro g9 cap9 w9 own9 hgrow hlg)
    have hb9 : Below w2.heap.size w2 w9 := Below.grew (bAlloc hb _) hgrow (by simp; omega) (ownK_base O1)
    exact ⟨⟨(j : Int) - 1, j, by omega, by omega, by go_num, by rw [← HZ.out]; exact own9, hb9⟩, by simp [intOf]⟩
  obtain rfl : z = -1 := by omega
  obtain rfl : m = 0 := by omega
  have RB_3 : Rs wr u5 l.reverse := OwnR.rs (by have := HO.out; rwa [List.drop_zero] at this) (by simp; omega)
  have R_3 := HR.out.keep hb
  have B_3 := HB.out.keep hb
  have hbw3 := bStep hbw2 hb
  clear HO HR HB HC
  go_wp2_with fail
  refine (specBatchOf_k HL.out R_3).mono ?_
  rintro e w4 ⟨os, rfl, S_4, hb4⟩
  have R_4 := R_3.keep hb4
  have B_4 := B_3.keep hb4
  have V_4 := RB_3.keep hb4
  have hbw4 := bStep hbw3 hb4
  clear R_3 B_3 RB_3 hbw3 hb4
  go_wp2_with fail
  refine (lwRows_eq (selfR _) B_4 S_4).mono ?_
  rintro e w5 ⟨rfl, hb5⟩
  have R_5 := R_4.keep hb5
  have B_5 := B_4.keep hb5
  have V_5 := V_4.keep hb5
  have hbw5 := bStep hbw4 hb5
  clear R_4 B_4 V_4 S_4 hbw4 hb5
  go_wp2_with fail
  refine (implBatchOf_k HV.out V_5).mono ?_
  rintro e w6 ⟨os, rfl, S_6, hb6⟩
  have R_6 := R_5.keep hb6
  have B_6 := B_5.keep hb6
  have V_6 := V_5.keep hb6
  have hbw6 := bStep hbw5 hb6
  clear R_5 B_5 V_5 hbw5 hb6
  go_wp2_with fail
  refine (lwRows_eq (selfR _) S_6 B_6).mono ?_
  rintro e w7 ⟨rfl, hb7⟩
  have R_7 := R_6.keep hb7
  have B_7 := B_6.keep hb7
  have V_7 := V_6.keep hb7
  have S_7 := S_6.keep hb7
  have hbw7 := bStep hbw6 hb7
  clear R_6 B_6 V_6 S_6 hbw6 hb7
  go_wp2_with fail
  go_ret
  exact ⟨rfl, hbw7⟩
end FnBatchOrder
namespace RowFnBatchOrder
theorem own : ownKnob Try.prog.godebug = none := by kernel_rfl
set_option maxRecDepth 100000 in
theorem lifted (os : Os) (started : os.Started) (H : Type) (enc : TypeId × Value → H) :
    ReturnsInHanded {} Try.checked os 5 .any (Rows.fnBatchOrderSpec.pre6 enc Try.prog Try.f5 Rows.fnBatchOrderRow.domain false) (Rows.fnBatchOrderSpec.post enc Try.prog Try.f5 false true false false) := by
  refine returnsInHanded_of_change (C := Try.checked) own started (by kernel_rfl) Try.func5
    (ChangeSpec.witness6 (enc := enc) (C := Try.checked) false ⟨#[], #[.slice none 0 0], []⟩ 8 (by kernel_rfl) (by kernel_rfl) (by kernel_rfl) (by kernel_rfl)) ?_
  intro W base args ds gs before hval0 hW hcnd _
  have hval : ∀ (j : Nat) t v, Try.f5.params[j]? = some t → args[j]? = some v → Value.okWide Try.prog W .any base t v := hval0
  have hW' := hW
  obtain ⟨p, q, hA0, hV, rfl, hfz, hnd⟩ := hW
  have hA : DataW.TrodAll enc Try.prog W 0 (fun _ => true) true Try.f5.params.toList args.toList ds p := hA0
  rw [Try.params5] at hA hval
  obtain ⟨v0, vs0, d0, ds0, p0, q0, hargs, rfl, rfl, h0, r0⟩ := trodAll_cons hA
  obtain ⟨rfl, rfl, rfl⟩ := trodAll_nil r0
  obtain rfl : args = #[v0] := by cases args; simp_all
  obtain ⟨rfl, rfl⟩ := trodVars_none hV
  obtain ⟨a0, len0, cap0, rfl⟩ := okWide_slice Try.underlying22 (hval 0 22 v0 rfl rfl)
  have k0 := h0
  have lt0 : ∀ x ∈ p0, x.block < W.heap.size := by obtain ⟨m, hm⟩ := k0; exact DataW.trod_lt m _ _ _ hm
  have w0 : Src W (.slice a0 len0 cap0) len0 := by
    obtain ⟨fuel, hf⟩ := h0
    rcases open_ints Try.underlying22 Try.underlying5 (by kernel_rfl) hf with ⟨hcs, _⟩ | ⟨x, l, c, zs, hcs, _, hl, hm, hz, _, hcell, hwz⟩
    · simp [Value.cells] at hcs
      obtain ⟨rfl, rfl, rfl⟩ := hcs
      exact Src.nil _
    · simp [Value.cells] at hcs
      obtain ⟨rfl, rfl, rfl⟩ := hcs
      exact Src.of_row hl hm (by simpa using hz) hcell hwz
  clear hA0 hval0
  refine (FnBatchOrder.walk a0 len0 cap0 W w0).mono fun e W' ⟨he, bel⟩ => ?_
  subst he
  exact ⟨_, rfl, _, _, _, [], _, [], hW', trodAll_mk1 (shut_bool Try.underlying4 _), (trodAll_cons_mk (Below.trod pfLaid (by kernel_rfl) (of_decide_eq_true (by kernel_rfl)) k0 bel lt0) trodAll_mk0), rfl, bel.frame _, fun h => by cases h⟩
set_option maxHeartbeats 4000000 in
theorem closed : joinedFacts Try.prog 5 Try.f5 Rows.fnBatchOrderSpec Rows.fnBatchOrderRow = true := by
  unfold joinedFacts
  exact (andB (andB (andB (andB (andB (andB (andB (andB (andB (andB (andB (andB (andB (andB (andB (andB (andB (andB (andB (andB (andB (andB (andB (andB (andB (andB (andB (andB (andB (andB (andB (by as_aux_lemma => kernel_rfl) pfLaid) pfRowed) (by as_aux_lemma => kernel_rfl)) (by as_aux_lemma => kernel_rfl)) (by as_aux_lemma => kernel_rfl)) (by as_aux_lemma => kernel_rfl)) (by as_aux_lemma => kernel_rfl)) (by as_aux_lemma => kernel_rfl)) (by as_aux_lemma => kernel_rfl)) (by as_aux_lemma => kernel_rfl)) (by as_aux_lemma => kernel_rfl)) (by as_aux_lemma => kernel_rfl)) (by as_aux_lemma => kernel_rfl)) (by as_aux_lemma => kernel_rfl)) (by as_aux_lemma => kernel_rfl)) (by as_aux_lemma => kernel_rfl)) (by as_aux_lemma => kernel_rfl)) (by as_aux_lemma => kernel_rfl)) (by as_aux_lemma => kernel_rfl)) (by as_aux_lemma => kernel_rfl)) (by as_aux_lemma => kernel_rfl)) (by as_aux_lemma => kernel_rfl)) (by as_aux_lemma => kernel_rfl)) pfHeard) pfEnter) (pfLiftB rfl)) (pfMakeB rfl)) (by as_aux_lemma => kernel_rfl)) (by as_aux_lemma => kernel_rfl)) (by as_aux_lemma => kernel_rfl)) (by as_aux_lemma => kernel_rfl))
theorem over : Rows.fnBatchOrderRow.holds Try.pinned (OpenSpec.ofChange Rows.fnBatchOrderSpec) :=
  OpenClaim.holds_of_wide 5 Try.f5 rfl rfl rfl rfl rfl rfl rfl ⟨rfl, rfl, rfl, rfl, rfl⟩ rfl rfl rfl rfl rfl (by kernel_rfl) Try.func5 closed
    (of_decide_eq_true (by kernel_rfl)) (by unfold Func.isWrapper; first | (rw [if_pos (by decide +kernel)]; kernel_rfl) | (rw [if_neg (by decide +kernel)]; exact ⟨rfl, rfl⟩))
    (fun os started H enc _ => lifted os started H enc)
end RowFnBatchOrder
theorem fnBatchOrder_holds : Rows.FnBatchOrderSaid := RowFnBatchOrder.over
end Go.Proofs.Ytebgjpghccnfcaa
