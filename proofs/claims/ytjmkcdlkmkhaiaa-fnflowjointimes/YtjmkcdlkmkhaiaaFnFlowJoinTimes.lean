/- For all bytes: FlowJoin of the program makes of the two lists of rows that they draw what the model makes of them, and changes at joins of both times alone; the argument reads afterwards as before. No condition. -/
import Derived.Test.YtjmkcdlkmkhaiaaPf
import Derived.Test.YtjmkcdlkmkhaiaaGj5
import Derived.Test.YtjmkcdlkmkhaiaaGl9
import Derived.Test.YtjmkcdlkmkhaiaaGd6
namespace Go.Proofs.Ytjmkcdlkmkhaiaa
open Go.ChangeShapes Go.WideShapes Go.ChangeAt Go.RowKit Go.Joins

namespace FnFlowJoinTimes
set_option maxRecDepth 100000 in
set_option maxHeartbeats 8000000 in
theorem walk (x0 : Option Addr) (len0 cap0 : Nat) (w : World) (h0 : Src w (.slice x0 len0 cap0) len0) :
    Calls Try.prog 11 #[.slice x0 len0 cap0] w fun e w' => e = .returned (.bool true) ∧ Below w.heap.size w w' := by
  by_cases g0 : (1048576 : Int) < (len0 : Int)
  · go_enter Try.func11, Try.ntmps11
    go_wp2_with fail
    go_ret
    exact ⟨rfl, Below.refl _ _⟩
  go_enter Try.func11, Try.ntmps11
  go_wp2_with fail
  refine (drawFlowJoin_any _ _ _ _ h0).mono ?_
  rintro e w1 ⟨oa, ob, a, b, rfl, hda, hdb, R_1, T_1, hb1⟩
  have hbw1 := hb1
  clear h0 hb1
  obtain ⟨L, hL_L⟩ : ∃ zz, fjoinL a b = zz := ⟨_, rfl⟩
  have HL : Hid (fjoinL a b = L) := hL_L
  clear hL_L
  obtain ⟨M1, hL_M1⟩ : ∃ zz, timesL a = zz := ⟨_, rfl⟩
  have HM1 : Hid (timesL a = M1) := hL_M1
  clear hL_M1
  obtain ⟨M2, hL_M2⟩ : ∃ zz, timesL b = zz := ⟨_, rfl⟩
  have HM2 : Hid (timesL b = M2) := hL_M2
  clear hL_M2
  have HJ : Hid (∀ r ∈ L, joF M1 M2 r.1.2.1 r.1.2.2 M1.length = true) := by
    have e1 := HL.out
    have e2 := HM1.out
    have e3 := HM2.out
    subst e1 e2 e3
    exact fun r hr => joF_all hr
  go_wp2_with fail
  refine (implFlowJoin_k HL.out R_1 T_1).mono ?_
  rintro e w2 ⟨ox, rfl, X_2, hb2⟩
  have R_2 := R_1.keep hb2
  have T_2 := T_1.keep hb2
  have hbw2 := bStep hbw1 hb2
  clear R_1 T_1 hbw1 hb2
  go_wp2_with fail
  refine (specFlowJoin_k HL.out R_2 T_2).mono ?_
  rintro e w3 ⟨os, rfl, S_3, hb3⟩
  have R_3 := R_2.keep hb3
  have T_3 := T_2.keep hb3
  have X_3 := X_2.keep hb3
  have hbw3 := bStep hbw2 hb3
  clear R_2 T_2 X_2 hbw2 hb3
  go_wp2_with fail
  refine (lwRows_eq (selfR _) X_3 S_3).mono ?_
  rintro e w4 ⟨rfl, hb4⟩
  have R_4 := R_3.keep hb4
  have T_4 := T_3.keep hb4
  have X_4 := X_3.keep hb4
  have hbw4 := bStep hbw3 hb4
  clear R_3 T_3 X_3 S_3 hbw3 hb4
  go_wp2_with fail
  refine (implTimesB_k HM1.out R_4).mono ?_
  rintro e w5 ⟨o1, rfl, M_5, hb5⟩
  have R_5 := R_4.keep hb5
  have T_5 := T_4.keep hb5
  have X_5 := X_4.keep hb5
  have hbw5 := bStep hbw4 hb5
  clear R_4 T_4 X_4 hbw4 hb5
  go_wp2_with fail
  refine (implTimesB_k HM2.out T_5).mono ?_
  rintro e w6 ⟨o2, rfl, N_6, hb6⟩
  have R_6 := R_5.keep hb6
  have T_6 := T_5.keep hb6
  have X_6 := X_5.keep hb6
  have M_6 := M_5.keep hb6
  have hbw6 := bStep hbw5 hb6
  clear R_5 T_5 X_5 M_5 hbw5 hb6
  obtain ⟨ax, capx, rfl, hcx, hmx, hnx, hcells⟩ := Rs.open X_6
  obtain ⟨a1, cap1, rfl, hc1, hm1, hn1, hcell1⟩ := M_6
  obtain ⟨a2, cap2, rfl, hc2, hm2, hn2, hcell2⟩ := N_6
  unfold maxLen at hmx hm1 hm2
  have HC := (show Hid _ from hcells)
  have HC1 := (show Hid _ from hcell1)
  have HC2 := (show Hid _ from hcell2)
  clear hcells hcell1 hcell2 X_6 R_6 T_6
  go_wp2_with fail
  go_loopw [8] (fun i wr => ∃ a : Nat, a ≤ L.length ∧ i = .int .i64 a ∧ Below w6.heap.size w6 wr) (fun i _ => L.length - (intOf i).toNat)
  case atStart => exact ⟨0, by omega, rfl, Below.refl _ _⟩
  obtain ⟨i, hiL, rfl, hb⟩ := hrel
  by_cases hlt : i < L.length
  · obtain ⟨g, off, K, V, A, B, D, rfl, hg, hr, -, -, c2, c3, -⟩ := HC.out i hlt
    have ia : ((i : Int) < (L.length : Int)) := by omega
    have HFD := (show Hid (joF M1 M2 A B M1.length = true) from HJ.out _ (List.mem_of_getElem? hr))
    clear hr
    go_wp2_with fail
    go_loopw [9, 10] (fun f i wr => ∃ k : Nat, k ≤ M1.length ∧ i = .int .i64 k ∧ f = .bool (joF M1 M2 A B k) ∧ Below w6.heap.size w6 wr) (fun _ i _ => M1.length - (intOf i).toNat)
    case atStart => exact ⟨0, by omega, rfl, rfl, hb⟩
    case round =>
      clear hb
      obtain ⟨k, hk1, rfl, rfl, hb⟩ := hrel
      by_cases hlt1 : k < M1.length
      · have ik : ((k : Int) < (M1.length : Int)) := by omega
        have HS : Hid (joF M1 M2 A B (k + 1) = (joF M1 M2 A B k || joR M1 M2 A B k M2.length)) := joF_succ M1 M2 A B k
        obtain ⟨g1, off1, rfl, hg1, p0, p1⟩ := HC1.out k hlt1
        generalize joF M1 M2 A B k = F0 at *
        go_wp2_with fail
        go_loopw [9, 11] (fun f i wr => ∃ j : Nat, j ≤ M2.length ∧ i = .int .i64 j ∧ f = .bool (F0 || joR M1 M2 A B k j) ∧ Below w6.heap.size w6 wr) (fun _ i _ => M2.length - (intOf i).toNat)
        case atStart => exact ⟨0, by omega, rfl, by simp [joR], hb⟩
        case round =>
          clear hb
          obtain ⟨j, hj2, rfl, rfl, hb⟩ := hrel
          by_cases hlt2 : j < M2.length
          · have ij : ((j : Int) < (M2.length : Int)) := by omega
            have HT : Hid (joR M1 M2 A B k (j + 1) = (joR M1 M2 A B k j || joH M1 M2 A B k j)) := joR_succ M1 M2 A B k j
            have HU : Hid (joH M1 M2 A B k j = decide (jnA (tA M1 k) (tB M1 k) (tA M2 j) (tB M2 j) = A ∧ jnB (tA M1 k) (tB M1 k) (tA M2 j) (tB M2 j) = B)) := rfl
            obtain ⟨g2, off2, rfl, hg2, q0, q1⟩ := HC2.out j hlt2
            have HX : Hid (∀ W, Below w6.heap.size w6 W → (W.cell? ⟨g1, off1 + k * 2, none⟩ = some (.int .i64 (tA M1 k)) ∧ W.cell? ⟨g1, off1 + k * 2 + 1, none⟩ = some (.int .i64 (tB M1 k))) ∧ (W.cell? ⟨g2, off2 + j * 2, none⟩ = some (.int .i64 (tA M2 j)) ∧ W.cell? ⟨g2, off2 + j * 2 + 1, none⟩ = some (.int .i64 (tB M2 j))) ∧ W.cell? ⟨g, off + i * 5 + 2, none⟩ = some (.int .i64 A) ∧ W.cell? ⟨g, off + i * 5 + 3, none⟩ = some (.int .i64 B)) :=
              fun W hW => ⟨⟨cell_below hW p0, cell_below hW p1⟩, ⟨cell_below hW q0, cell_below hW q1⟩, cell_below hW c2, cell_below hW c3⟩
            generalize joR M1 M2 A B k j = F1 at *
            generalize joH M1 M2 A B k j = F2 at *
            obtain ⟨⟨d0, d1⟩, ⟨e0, e1⟩, f0, f1⟩ := HX.out _ hb
            generalize tA M1 k = s1 at *
            generalize tB M1 k = s2 at *
            generalize tA M2 j = t1 at *
            generalize tB M2 j = t2 at *
            have hbD := hb.drew
            cases hF : (F0 || F1)
            · have HC3 : Hid (∀ W, Calls Try.prog 38 #[tv s1 s2, tv t1 t2] W fun e w' => e = .returned (tv (jnA s1 s2 t1 t2) (jnB s1 s2 t1 t2)) ∧ Below W.heap.size W w') := fun W => implJoin_any s1 s2 t1 t2 W
              generalize jnA s1 s2 t1 t2 = JA at *
              generalize jnB s1 s2 t1 t2 = JB at *
              by_cases h1 : JA = A
              · by_cases h2 : JB = B
                · subst h1 h2
                  have HV : Hid (F2 = true) := by show _ = _; rw [HU.out]; simp
                  go_wp2_with fail
                  go_region_held3 (fun W => (W.cell? ⟨g1, off1 + k * 2, none⟩ = some (.int .i64 s1) ∧ W.cell? ⟨g1, off1 + k * 2 + 1, none⟩ = some (.int .i64 s2)) ∧ (W.cell? ⟨g2, off2 + j * 2, none⟩ = some (.int .i64 t1) ∧ W.cell? ⟨g2, off2 + j * 2 + 1, none⟩ = some (.int .i64 t2)) ∧ W.cell? ⟨g, off + i * 5 + 2, none⟩ = some (.int .i64 JA) ∧ W.cell? ⟨g, off + i * 5 + 3, none⟩ = some (.int .i64 JB))
                    (first | exact HX.out _ hbc2 | exact HX.out _ hbD)
                    (first | (go_at_call 38; with_reducible refine (HC3.out _).mono ?_; rintro e wc ⟨rfl, hbc⟩; have hbc2 : Below w6.heap.size w6 wc := bStep hbD hbc))
                  all_goals
                    go_wp2_with fail
                    go_roundw
                    case rel => exact ⟨j + 1, by omega, by go_num, by rw [HT.out, HV.out, ← Bool.or_assoc, hF]; simp, hbc2⟩
                    case measure => simp [intOf]; omega
                · subst h1
                  have n2 : (JB == B) = false := beq_eq_false_iff_ne.2 h2
                  have HV : Hid (F2 = false) := by show _ = _; rw [HU.out]; simp [h2]
                  go_wp2_with fail
                  go_region_held3 (fun W => (W.cell? ⟨g1, off1 + k * 2, none⟩ = some (.int .i64 s1) ∧ W.cell? ⟨g1, off1 + k * 2 + 1, none⟩ = some (.int .i64 s2)) ∧ (W.cell? ⟨g2, off2 + j * 2, none⟩ = some (.int .i64 t1) ∧ W.cell? ⟨g2, off2 + j * 2 + 1, none⟩ = some (.int .i64 t2)) ∧ W.cell? ⟨g, off + i * 5 + 2, none⟩ = some (.int .i64 JA) ∧ W.cell? ⟨g, off + i * 5 + 3, none⟩ = some (.int .i64 B))
                    (first | exact HX.out _ hbc2 | exact HX.out _ hbD)
                    (first | (go_at_call 38; with_reducible refine (HC3.out _).mono ?_; rintro e wc ⟨rfl, hbc⟩; have hbc2 : Below w6.heap.size w6 wc := bStep hbD hbc))
                  all_goals
                    go_wp2_with fail
                    go_roundw
                    case rel => exact ⟨j + 1, by omega, by go_num, by rw [HT.out, HV.out, ← Bool.or_assoc, hF]; simp, hbc2⟩
                    case measure => simp [intOf]; omega
              · have n1 : (JA == A) = false := beq_eq_false_iff_ne.2 h1
                have HV : Hid (F2 = false) := by show _ = _; rw [HU.out]; simp [h1]
                go_wp2_with fail
                go_region_held3 (fun W => (W.cell? ⟨g1, off1 + k * 2, none⟩ = some (.int .i64 s1) ∧ W.cell? ⟨g1, off1 + k * 2 + 1, none⟩ = some (.int .i64 s2)) ∧ (W.cell? ⟨g2, off2 + j * 2, none⟩ = some (.int .i64 t1) ∧ W.cell? ⟨g2, off2 + j * 2 + 1, none⟩ = some (.int .i64 t2)) ∧ W.cell? ⟨g, off + i * 5 + 2, none⟩ = some (.int .i64 A) ∧ W.cell? ⟨g, off + i * 5 + 3, none⟩ = some (.int .i64 B))
                  (first | exact HX.out _ hbc2 | exact HX.out _ hbD)
                  (first | (go_at_call 38; with_reducible refine (HC3.out _).mono ?_; rintro e wc ⟨rfl, hbc⟩; have hbc2 : Below w6.heap.size w6 wc := bStep hbD hbc))
                all_goals
                  go_wp2_with fail
                  go_roundw
                  case rel => exact ⟨j + 1, by omega, by go_num, by rw [HT.out, HV.out, ← Bool.or_assoc, hF]; simp, hbc2⟩
                  case measure => simp [intOf]; omega
            · go_wp2_with fail
              go_quiet (fail)
              go_wp2_with fail
              go_roundw
              case rel => exact ⟨j + 1, by omega, by go_num, by rw [HT.out, ← Bool.or_assoc, hF]; simp, bDrewN hb _⟩
              case measure => simp [intOf]; omega
          · obtain rfl : j = M2.length := by omega
            go_wp2_with fail
            go_roundw
            case rel => exact ⟨k + 1, by omega, by go_num, by rw [HS.out], hb⟩
            case measure => simp [intOf]; omega
      · obtain rfl : k = M1.length := by omega
        rw [HFD.out]
        go_wp2_with fail
        exact ⟨⟨i + 1, by omega, by go_num, hb⟩, by simp [intOf]; omega⟩
  · go_wp2_with fail
    go_ret
    exact ⟨rfl, bStep hbw6 hb⟩
end FnFlowJoinTimes
namespace RowFnFlowJoinTimes
theorem own : ownKnob Try.prog.godebug = none := by kernel_rfl
set_option maxRecDepth 100000 in
theorem lifted (os : Os) (started : os.Started) (H : Type) (enc : TypeId × Value → H) :
    ReturnsInHanded {} Try.checked os 11 .any (Rows.fnFlowJoinTimesSpec.pre6 enc Try.prog Try.f11 Rows.fnFlowJoinTimesRow.domain false) (Rows.fnFlowJoinTimesSpec.post enc Try.prog Try.f11 false true false false) := by
  refine returnsInHanded_of_change (C := Try.checked) own started (by kernel_rfl) Try.func11
    (ChangeSpec.witness6 (enc := enc) (C := Try.checked) false ⟨#[], #[.slice none 0 0], []⟩ 8 (by kernel_rfl) (by kernel_rfl) (by kernel_rfl) (by kernel_rfl)) ?_
  intro W base args ds gs before hval0 hW hcnd _
  have hval : ∀ (j : Nat) t v, Try.f11.params[j]? = some t → args[j]? = some v → Value.okWide Try.prog W .any base t v := hval0
  have hW' := hW
  obtain ⟨p, q, hA0, hV, rfl, hfz, hnd⟩ := hW
  have hA : DataW.TrodAll enc Try.prog W 0 (fun _ => true) true Try.f11.params.toList args.toList ds p := hA0
  rw [Try.params11] at hA hval
  obtain ⟨v0, vs0, d0, ds0, p0, q0, hargs, rfl, rfl, h0, r0⟩ := trodAll_cons hA
  obtain ⟨rfl, rfl, rfl⟩ := trodAll_nil r0
  obtain rfl : args = #[v0] := by cases args; simp_all
  obtain ⟨rfl, rfl⟩ := trodVars_none hV
  obtain ⟨a0, len0, cap0, rfl⟩ := okWide_slice Try.underlying22 (hval 0 22 v0 rfl rfl)
  have k0 := h0
  have lt0 : ∀ x ∈ p0, x.block < W.heap.size := by obtain ⟨m, hm⟩ := k0; exact DataW.trod_lt m _ _ _ hm
  have w0 : Src W (.slice a0 len0 cap0) len0 := by
    obtain ⟨fuel, hf⟩ := h0
    rcases open_ints Try.underlying22 Try.underlying5 (by kernel_rfl) hf with ⟨hcs, _⟩ | ⟨x, l, c, zs, hcs, _, hl, hm, hz, _, hcell, hwz⟩
    · simp [Value.cells] at hcs
      obtain ⟨rfl, rfl, rfl⟩ := hcs
      exact Src.nil _
    · simp [Value.cells] at hcs
      obtain ⟨rfl, rfl, rfl⟩ := hcs
      exact Src.of_row hl hm (by simpa using hz) hcell hwz
  clear hA0 hval0
  refine (FnFlowJoinTimes.walk a0 len0 cap0 W w0).mono fun e W' ⟨he, bel⟩ => ?_
  subst he
  exact ⟨_, rfl, _, _, _, [], _, [], hW', trodAll_mk1 (shut_bool Try.underlying4 _), (trodAll_cons_mk (Below.trod pfLaid (by kernel_rfl) (of_decide_eq_true (by kernel_rfl)) k0 bel lt0) trodAll_mk0), rfl, bel.frame _, fun h => by cases h⟩
set_option maxHeartbeats 4000000 in
theorem closed : joinedFacts Try.prog 11 Try.f11 Rows.fnFlowJoinTimesSpec Rows.fnFlowJoinTimesRow = true := by
  unfold joinedFacts
  exact (andB (andB (andB (andB (andB (andB (andB (andB (andB (andB (andB (andB (andB (andB (andB (andB (andB (andB (andB (andB (andB (andB (andB (andB (andB (andB (andB (andB (andB (andB (andB (by as_aux_lemma => kernel_rfl) pfLaid) pfRowed) (by as_aux_lemma => kernel_rfl)) (by as_aux_lemma => kernel_rfl)) (by as_aux_lemma => kernel_rfl)) (by as_aux_lemma => kernel_rfl)) (by as_aux_lemma => kernel_rfl)) (by as_aux_lemma => kernel_rfl)) (by as_aux_lemma => kernel_rfl)) (by as_aux_lemma => kernel_rfl)) (by as_aux_lemma => kernel_rfl)) (by as_aux_lemma => kernel_rfl)) (by as_aux_lemma => kernel_rfl)) (by as_aux_lemma => kernel_rfl)) (by as_aux_lemma => kernel_rfl)) (by as_aux_lemma => kernel_rfl)) (by as_aux_lemma => kernel_rfl)) (by as_aux_lemma => kernel_rfl)) (by as_aux_lemma => kernel_rfl)) (by as_aux_lemma => kernel_rfl)) (by as_aux_lemma => kernel_rfl)) (by as_aux_lemma => kernel_rfl)) (by as_aux_lemma => kernel_rfl)) pfHeard) pfEnter) (pfLiftB rfl)) (pfMakeB rfl)) (by as_aux_lemma => kernel_rfl)) (by as_aux_lemma => kernel_rfl)) (by as_aux_lemma => kernel_rfl)) (by as_aux_lemma => kernel_rfl))
theorem over : Rows.fnFlowJoinTimesRow.holds Try.pinned (OpenSpec.ofChange Rows.fnFlowJoinTimesSpec) :=
  OpenClaim.holds_of_wide 11 Try.f11 rfl rfl rfl rfl rfl rfl rfl ⟨rfl, rfl, rfl, rfl, rfl⟩ rfl rfl rfl rfl rfl (by kernel_rfl) Try.func11 closed
    (of_decide_eq_true (by kernel_rfl)) (by unfold Func.isWrapper; first | (rw [if_pos (by decide +kernel)]; kernel_rfl) | (rw [if_neg (by decide +kernel)]; exact ⟨rfl, rfl⟩))
    (fun os started H enc _ => lifted os started H enc)
end RowFnFlowJoinTimes
theorem fnFlowJoinTimes_holds : Rows.FnFlowJoinTimesSaid := RowFnFlowJoinTimes.over
end Go.Proofs.Ytjmkcdlkmkhaiaa
