/- For all bytes: FlowTimes of the program tells of the rows and the key that they draw the times that the model tells of them; joins of two of them, and the times of the key's rows, are among them; the argument reads afterwards as before. No condition. -/
import Derived.Test.YtlddhfimiignaaaPf
import Derived.Test.YtlddhfimiignaaaDr9
import Derived.Test.YtlddhfimiignaaaGq4
import Derived.Test.YtlddhfimiignaaaGq3
import Derived.Test.YtlddhfimiignaaaGb0
namespace Go.Proofs.Ytlddhfimiignaaa
open Go.ChangeShapes Go.WideShapes Go.ChangeAt Go.RowKit Go.Joins

namespace FnFlowTimes
theorem lwIn_in {v : Value} {T : List (Int × Int)} {X Y : Int} {w : World} (hin : (X, Y) ∈ T) (h : Ts w v T) : Calls Try.prog 38 #[v, tv X Y] w fun e w' => e = .returned (.bool true) ∧ Below w.heap.size w w' := by
  have := lwIn_any v T X Y w h
  rw [show decide ((X, Y) ∈ T) = true by simp [hin]] at this; exact this
set_option maxRecDepth 100000 in
set_option maxHeartbeats 16000000 in
theorem walk (x0 : Option Addr) (len0 cap0 : Nat) (w : World) (h0 : Src w (.slice x0 len0 cap0) len0) :
    Calls Try.prog 8 #[.slice x0 len0 cap0] w fun e w' => e = .returned (.bool true) ∧ Below w.heap.size w w' := by
  by_cases g0 : (1048576 : Int) < (len0 : Int)
  · go_enter Try.func8, Try.ntmps8
    go_wp2_with fail
    go_ret
    exact ⟨rfl, Below.refl _ _⟩
  go_enter Try.func8, Try.ntmps8
  go_wp2_with fail
  refine (drawFlowTimes_any _ _ _ _ h0).mono ?_
  rintro e w1 ⟨oa, l, key, rfl, hl, R1, hb1⟩
  clear h0
  obtain ⟨T, hT⟩ : ∃ T, ftimesL l key = T := ⟨_, rfl⟩
  have HT : Hid (ftimesL l key = T) := hT
  have hTl : T.length ≤ 64 := by rw [← hT]; exact ftimes_len l key
  clear hT
  go_wp2_with fail
  refine (implFlowTimes_any _ l key _ R1).mono ?_
  rw [HT.out]
  rintro e w2 ⟨o2, rfl, own2, hb2⟩
  have X2 : Ts w2 o2 T := Own.ts own2 (by omega)
  obtain ⟨ad2, cp2, rfl⟩ := own_slice0 own2
  have R2 := R1.keep hb2
  have hbw2 := bStep hb1 hb2
  clear own2 hb1 hb2 R1
  go_wp2_with fail
  refine (specFlowTimes_any _ l key _ R2).mono ?_
  rw [HT.out]
  rintro e w3 ⟨o3, rfl, own3, hb3⟩
  have S3 : Ts w3 o3 T := Own.ts own3 (by omega)
  have X3 := X2.keep hb3
  have R3 := R2.keep hb3
  have hbw3 := bStep hbw2 hb3
  clear own3 hb3 X2 R2 hbw2
  go_wp2_with fail
  refine (lwTimes_eq (r := true) (by simp) X3 S3).mono ?_
  rintro e w4 ⟨rfl, hb4⟩
  have X4 := X3.keep hb4
  have R4 := R3.keep hb4
  have hbw4 := bStep hbw3 hb4
  clear hb4 X3 R3 S3 hbw3
  go_wp2_with fail
  cases hk : rokB l
  · refine (specRowsOk_eq hk R4).mono ?_
    rintro e w5 ⟨rfl, hb5⟩
    have X5 := X4.keep hb5
    have R5 := R4.keep hb5
    have hbw5 := bStep hbw4 hb5
    clear hb5 X4 R4 hbw4
    go_wp2_with fail
    refine (specFlowTimes_any _ l key _ R5).mono ?_
    rw [HT.out]
    rintro e w6 ⟨o6, rfl, own6, hb6⟩
    have S6 : Ts w6 o6 T := Own.ts own6 (by omega)
    have X6 := X5.keep hb6
    have hbw6 := bStep hbw5 hb6
    clear own6 hb6 X5 R5 hbw5
    go_wp2_with fail
    refine (lwTimes_eq (r := true) (by simp) X6 S6).mono ?_
    rintro e w7 ⟨rfl, hb7⟩
    have hbw7 := bStep hbw6 hb7
    go_wp2_with fail
    go_ret
    exact ⟨rfl, hbw7⟩
  refine (specRowsOk_eq hk R4).mono ?_
  rintro e w5 ⟨rfl, hb5⟩
  have hbw5 := bStep hbw4 hb5
  have HX : Hid (∀ W, Below w5.heap.size w5 W → Ts W (.slice ad2 T.length cp2) T) := fun W hW => (X4.keep hb5).keep hW
  have HRR : Hid (∀ W, Below w5.heap.size w5 W → Rs W oa l) := fun W hW => (R4.keep hb5).keep hW
  have HTJ : Hid (T = jtimes (rowsK l key)) := by
    show _ = _; rw [← HT.out]; unfold ftimesL; rw [hk]; rfl
  have HKL : Hid (rokB (rowsK l key) = true) := rowsK_ok hk key
  clear hb5 X4 R4 hbw4 hk
  go_wp2_with fail
  go_loopw [6] (fun b wr => ∃ i : Nat, i ≤ T.length ∧ b = .int .i64 i ∧ Below w5.heap.size w5 wr) (fun b _ => T.length - (intOf b).toNat)
  case atStart => exact ⟨0, by omega, rfl, Below.refl _ _⟩
  case round =>
    obtain ⟨i, hi, rfl, hb⟩ := hrel
    by_cases hlt : i < T.length
    · have ii : ((i : Int) < (T.length : Int)) := by omega
      go_wp2_with fail
      go_loopw [7] (fun b wr => ∃ j : Nat, j ≤ i ∧ b = .int .i64 j ∧ Below w5.heap.size w5 wr) (fun b _ => i - (intOf b).toNat)
      case atStart => exact ⟨0, by omega, rfl, hb⟩
      case round =>
        clear hb
        obtain ⟨j, hj, rfl, hb⟩ := hrel
        by_cases hlt2 : j < i
        · obtain ⟨ad', cap', e1, -, -, -, hcells⟩ := HX.out w5 (Below.refl _ _)
          cases e1
          obtain ⟨g, off, rfl, hg, pi0, pi1⟩ := hcells i hlt
          obtain ⟨g', off', e2, hg', pj0, pj1⟩ := hcells j (by omega)
          cases e2
          have HIN : Hid ((jnA (tA T i) (tB T i) (tA T j) (tB T j), jnB (tA T i) (tB T i) (tA T j) (tB T j)) ∈ T) := by
            have e3 := HTJ.out
            have m1 : gt T i ∈ jtimes (rowsK l key) := by rw [← e3]; exact gt_mem hlt
            have m2 : gt T j ∈ jtimes (rowsK l key) := by rw [← e3]; exact gt_mem (by omega)
            have := jt_join m1 m2
            rw [← jnT_prog m1 m2, ← e3] at this; exact this
          have ij : ((j : Int) < (T.length : Int)) := by omega
          have ji : ((j : Int) < (i : Int)) := by omega
          clear hcells
          generalize tA T i = A at *
          generalize tB T i = B at *
          generalize tA T j = A2 at *
          generalize tB T j = B2 at *
          have HS : Hid (∀ W, Below w5.heap.size w5 W → (W.cell? ⟨g, off + i * 2, none⟩ = some (.int .i64 A) ∧ W.cell? ⟨g, off + i * 2 + 1, none⟩ = some (.int .i64 B)) ∧ W.cell? ⟨g, off + j * 2, none⟩ = some (.int .i64 A2) ∧ W.cell? ⟨g, off + j * 2 + 1, none⟩ = some (.int .i64 B2)) := fun W hW => ⟨⟨cell_below hW pi0, cell_below hW pi1⟩, cell_below hW pj0, cell_below hW pj1⟩
          have hcur : Below w5.heap.size w5 wr.drew := bStep hb (Below.refl _ _).drew
          have HC1 : Hid (∀ W wc, Below w5.heap.size w5 W → Below W.heap.size W wc → Below w5.heap.size w5 wc) := fun W wc h1 h2 => bStep h1 h2
          clear pi0 pi1 pj0 pj1
          go_wp2_with fail
          go_region_held3 (fun W => (W.cell? ⟨g, off + i * 2, none⟩ = some (.int .i64 A) ∧ W.cell? ⟨g, off + i * 2 + 1, none⟩ = some (.int .i64 B)) ∧ W.cell? ⟨g, off + j * 2, none⟩ = some (.int .i64 A2) ∧ W.cell? ⟨g, off + j * 2 + 1, none⟩ = some (.int .i64 B2))
            (first | exact HS.out _ hcur)
            (first
              | (go_at_call 39; with_reducible refine (implJoin_any A B A2 B2 _).mono ?_; rintro e wc ⟨rfl, hbc⟩; replace hcur := HC1.out _ _ hcur hbc)
              | (go_at_call 38; with_reducible refine (lwIn_in HIN.out (HX.out _ hcur)).mono ?_; rintro e wc ⟨rfl, hbc⟩; replace hcur := HC1.out _ _ hcur hbc))
          all_goals
            go_wp2_with fail
            go_roundw
            case rel => exact ⟨j + 1, by omega, by go_num, hcur⟩
            case measure => simp [intOf]; omega
        · obtain rfl : j = i := by omega
          go_wp2_with fail
          go_roundw
          case rel => exact ⟨j + 1, by omega, by go_num, hb⟩
          case measure => simp [intOf]; omega
    · obtain rfl : i = T.length := by omega
      obtain ⟨ador, capr, rfl, hcr, hmr, hnr, hcellsr⟩ := Rs.open (HRR.out w5 (Below.refl _ _))
      unfold maxLen at hmr
      have HCR := (show Hid _ from hcellsr)
      clear hcellsr
      go_wp2_with fail
      go_loopw [8] (fun b wr => ∃ k : Nat, k ≤ l.length ∧ b = .int .i64 k ∧ Below w5.heap.size w5 wr) (fun b _ => l.length - (intOf b).toNat)
      case atStart => exact ⟨0, by omega, rfl, hb⟩
      case round =>
        clear hb
        obtain ⟨k, hk, rfl, hb⟩ := hrel
        by_cases hlt3 : k < l.length
        · obtain ⟨g, off, K, V, A, B, D, rfl, hg, hr, c0, c1, c2, c3, c4⟩ := HCR.out k hlt3
          have ik : ((k : Int) < (l.length : Int)) := by omega
          have q0 := cell_below hb c0
          have q2 := cell_below hb c2
          have q3 := cell_below hb c3
          by_cases hK : K = key
          · have HIN : Hid ((A, B) ∈ T) := by
              show _ ∈ _
              rw [HTJ.out]
              refine jt_self HKL.out (r := (((K, V), (A, B)), D)) ?_
              unfold rowsK
              exact List.mem_filter.2 ⟨List.mem_of_getElem? hr, by simp [hK]⟩
            subst hK
            clear c0 c1 c2 c3 c4 hr
            go_wp2_with fail
            refine (lwIn_in HIN.out (HX.out _ hb)).mono ?_
            rintro e w9 ⟨rfl, hb9⟩
            have hb10 := bStep hb hb9
            clear hb9
            go_wp2_with fail
            go_roundw
            case rel => exact ⟨k + 1, by omega, by go_num, hb10⟩
            case measure => simp [intOf]; omega
          · have nx : (K == key) = false := beq_eq_false_iff_ne.2 hK
            clear c0 c1 c2 c3 c4 hr
            go_wp2_with fail
            go_roundw
            case rel => exact ⟨k + 1, by omega, by go_num, hb⟩
            case measure => simp [intOf]; omega
        · obtain rfl : k = l.length := by omega
          go_wp2_with fail
          go_ret
          exact ⟨rfl, bStep hbw5 hb⟩
end FnFlowTimes
namespace RowFnFlowTimes
theorem own : ownKnob Try.prog.godebug = none := by kernel_rfl
set_option maxRecDepth 100000 in
theorem lifted (os : Os) (started : os.Started) (H : Type) (enc : TypeId × Value → H) :
    ReturnsInHanded {} Try.checked os 8 .any (Rows.fnFlowTimesSpec.pre6 enc Try.prog Try.f8 Rows.fnFlowTimesRow.domain false) (Rows.fnFlowTimesSpec.post enc Try.prog Try.f8 false true false false) := by
  refine returnsInHanded_of_change (C := Try.checked) own started (by kernel_rfl) Try.func8
    (ChangeSpec.witness6 (enc := enc) (C := Try.checked) false ⟨#[], #[.slice none 0 0], []⟩ 8 (by kernel_rfl) (by kernel_rfl) (by kernel_rfl) (by kernel_rfl)) ?_
  intro W base args ds gs before hval0 hW hcnd _
  have hval : ∀ (j : Nat) t v, Try.f8.params[j]? = some t → args[j]? = some v → Value.okWide Try.prog W .any base t v := hval0
  have hW' := hW
  obtain ⟨p, q, hA0, hV, rfl, hfz, hnd⟩ := hW
  have hA : DataW.TrodAll enc Try.prog W 0 (fun _ => true) true Try.f8.params.toList args.toList ds p := hA0
  rw [Try.params8] at hA hval
  obtain ⟨v0, vs0, d0, ds0, p0, q0, hargs, rfl, rfl, h0, r0⟩ := trodAll_cons hA
  obtain ⟨rfl, rfl, rfl⟩ := trodAll_nil r0
  obtain rfl : args = #[v0] := by cases args; simp_all
  obtain ⟨rfl, rfl⟩ := trodVars_none hV
  obtain ⟨a0, len0, cap0, rfl⟩ := okWide_slice Try.underlying22 (hval 0 22 v0 rfl rfl)
  have k0 := h0
  have lt0 : ∀ x ∈ p0, x.block < W.heap.size := by obtain ⟨m, hm⟩ := k0; exact DataW.trod_lt m _ _ _ hm
  have w0 : Src W (.slice a0 len0 cap0) len0 := by
    obtain ⟨fuel, hf⟩ := h0
    rcases open_ints Try.underlying22 Try.underlying5 (by kernel_rfl) hf with ⟨hcs, _⟩ | ⟨x, l, c, zs, hcs, _, hl, hm, hz, _, hcell, hwz⟩
    · simp [Value.cells] at hcs
      obtain ⟨rfl, rfl, rfl⟩ := hcs
      exact Src.nil _
    · simp [Value.cells] at hcs
      obtain ⟨rfl, rfl, rfl⟩ := hcs
      exact Src.of_row hl hm (by simpa using hz) hcell hwz
  clear hA0 hval0
  refine (FnFlowTimes.walk a0 len0 cap0 W w0).mono fun e W' ⟨he, bel⟩ => ?_
  subst he
  exact ⟨_, rfl, _, _, _, [], _, [], hW', trodAll_mk1 (shut_bool Try.underlying4 _), (trodAll_cons_mk (Below.trod pfLaid (by kernel_rfl) (of_decide_eq_true (by kernel_rfl)) k0 bel lt0) trodAll_mk0), rfl, bel.frame _, fun h => by cases h⟩
set_option maxHeartbeats 4000000 in
theorem closed : joinedFacts Try.prog 8 Try.f8 Rows.fnFlowTimesSpec Rows.fnFlowTimesRow = true := by
  unfold joinedFacts
  exact (andB (andB (andB (andB (andB (andB (andB (andB (andB (andB (andB (andB (andB (andB (andB (andB (andB (andB (andB (andB (andB (andB (andB (andB (andB (andB (andB (andB (andB (andB (andB (by as_aux_lemma => kernel_rfl) pfLaid) pfRowed) (by as_aux_lemma => kernel_rfl)) (by as_aux_lemma => kernel_rfl)) (by as_aux_lemma => kernel_rfl)) (by as_aux_lemma => kernel_rfl)) (by as_aux_lemma => kernel_rfl)) (by as_aux_lemma => kernel_rfl)) (by as_aux_lemma => kernel_rfl)) (by as_aux_lemma => kernel_rfl)) (by as_aux_lemma => kernel_rfl)) (by as_aux_lemma => kernel_rfl)) (by as_aux_lemma => kernel_rfl)) (by as_aux_lemma => kernel_rfl)) (by as_aux_lemma => kernel_rfl)) (by as_aux_lemma => kernel_rfl)) (by as_aux_lemma => kernel_rfl)) (by as_aux_lemma => kernel_rfl)) (by as_aux_lemma => kernel_rfl)) (by as_aux_lemma => kernel_rfl)) (by as_aux_lemma => kernel_rfl)) (by as_aux_lemma => kernel_rfl)) (by as_aux_lemma => kernel_rfl)) pfHeard) pfEnter) (pfLiftB rfl)) (pfMakeB rfl)) (by as_aux_lemma => kernel_rfl)) (by as_aux_lemma => kernel_rfl)) (by as_aux_lemma => kernel_rfl)) (by as_aux_lemma => kernel_rfl))
theorem over : Rows.fnFlowTimesRow.holds Try.pinned (OpenSpec.ofChange Rows.fnFlowTimesSpec) :=
  OpenClaim.holds_of_wide 8 Try.f8 rfl rfl rfl rfl rfl rfl rfl ⟨rfl, rfl, rfl, rfl, rfl⟩ rfl rfl rfl rfl rfl (by kernel_rfl) Try.func8 closed
    (of_decide_eq_true (by kernel_rfl)) (by unfold Func.isWrapper; first | (rw [if_pos (by decide +kernel)]; kernel_rfl) | (rw [if_neg (by decide +kernel)]; exact ⟨rfl, rfl⟩))
    (fun os started H enc _ => lifted os started H enc)
end RowFnFlowTimes
theorem fnFlowTimes_holds : Rows.FnFlowTimesSaid := RowFnFlowTimes.over
end Go.Proofs.Ytlddhfimiignaaa
